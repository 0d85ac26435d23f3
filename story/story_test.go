package story

import (
	"bytes"
	"fmt"
	"math"
	"slices"
	"strconv"
	"strings"
	"testing"

	"carillon/api"
	"carillon/entry"
	"carillon/world"
)

var (
	put   = api.Entry{Kind: api.Put, Job: 2, Every: 5, Time: 10}
	low   = api.Entry{Kind: api.Put, Job: 0, Every: 100, Time: api.MaxTime}
	drop  = api.Entry{Kind: api.Drop, Job: 2}
	ring  = api.Entry{Kind: api.Ring, Job: 2, Time: 10, Client: 1}
	other = api.Entry{Kind: api.Ring, Job: 2, Time: 10, Client: 2}
	later = api.Entry{Kind: api.Ring, Job: 2, Time: 15, Client: 0}
	junk  = api.Entry{}
	open  = api.Entry{Kind: api.Blank}
)

// unitOf: a unit that has these from place 0 on, and its disk.
func unitOf(l []api.Entry) api.Node {
	n := api.Node{U: api.Unit{Epoch: 1, Cells: slices.Repeat([]api.Entry{open}, 60)}, Up: true}
	for at, e := range l {
		if e == open {
			continue
		}
		text, wrong := entry.Print(e)
		if wrong != api.OK {
			panic(wrong)
		}
		n.U.Cells[at] = e
		n.D.Safe = append(n.D.Safe, strconv.Itoa(at)+": "+text+"\n"...)
	}
	return n
}

// of: a world whose units have these from place 0 on, and whose clients have done nothing.
func of(first, second, last []api.Entry) api.World {
	return api.World{
		N: []api.Node{unitOf(first), unitOf(second), unitOf(last)},
		C: []api.Client{{Epoch: 1}, {Epoch: 1}, {Epoch: 1}},
	}
}

// all: all units have the same.
func all(l ...api.Entry) api.World { return of(l, l, l) }

// some: a world where places 5 and 6 are open at all units, and 2, 4 and 7 at the last one.
func some() api.World {
	return of(
		[]api.Entry{put, ring, junk, later, drop, open, open, junk},
		[]api.Entry{put, ring, junk, later, drop},
		[]api.Entry{put, ring, open, later})
}

// but: w, but for what change does to it; w is one that no one else has.
func but(w api.World, change ...func(w *api.World)) api.World {
	for _, by := range change {
		by(&w)
	}
	return w
}

func down(k int, wait string) func(*api.World) {
	return func(w *api.World) {
		w.N[k].Up = false
		w.N[k].D.Wait = []byte(wait)
	}
}

func sealed(k, epoch int) func(*api.World) {
	return func(w *api.World) {
		w.N[k].U.Epoch = epoch
		w.N[k].D.Safe = append(w.N[k].D.Safe, "seal "+strconv.Itoa(epoch)+"\n"...)
	}
}

func safe(k int, lines string) func(*api.World) {
	return func(w *api.World) { w.N[k].D.Safe = append(w.N[k].D.Safe, lines...) }
}

func place(k, at int, e api.Entry) func(*api.World) {
	return func(w *api.World) { w.N[k].U.Cells[at] = e }
}

func tipAt(n int) func(*api.World) { return func(w *api.World) { w.Tip = n } }

func timeAt(n int) func(*api.World) { return func(w *api.World) { w.Time = n } }

func clientIs(who int, c api.Client) func(*api.World) {
	return func(w *api.World) { w.C[who] = c }
}

func alike(a, b api.Book) bool {
	return slices.Equal(a.Jobs, b.Jobs) && slices.Equal(a.Rung, b.Rung)
}

func full(e api.Entry) []api.Entry { return slices.Repeat([]api.Entry{e}, 60) }

// upTo: from first up to, but not with, end.
func upTo(first, end int) []int {
	var l []int
	for i := first; i < end; i++ {
		l = append(l, i)
	}
	return l
}

// brief: what is at the nodes as the lines of their disks, since 180 places are too long to read.
func brief(w api.World) string {
	text := ""
	for _, n := range w.N {
		text += fmt.Sprintf("epoch %d, up %t, %q and %q; ", n.U.Epoch, n.Up, n.D.Safe, n.D.Wait)
	}
	return text + fmt.Sprint("tip ", w.Tip, ", time ", w.Time, ", clients ", w.C)
}

// told: what is to be said of a world.
type told struct {
	w     api.World
	log   []api.Entry
	book  api.Book
	holes []int
}

func wantTold(t *testing.T, l []told) {
	t.Helper()
	for _, x := range l {
		if wrong := world.Check(x.w); wrong != api.OK {
			t.Fatalf("%s: %d", brief(x.w), wrong)
		}
		if got, wrong := Log(x.w); !slices.Equal(got, x.log) || wrong != api.OK {
			t.Errorf("Log(%s): %v, %d, want %v", brief(x.w), got, wrong, x.log)
		}
		if got, wrong := Book(x.w); !alike(got, x.book) || wrong != api.OK {
			t.Errorf("Book(%s): %v, %d, want %v", brief(x.w), got, wrong, x.book)
		}
		if got, wrong := Holes(x.w); !slices.Equal(got, x.holes) || wrong != api.OK {
			t.Errorf("Holes(%s): %v, %d, want %v", brief(x.w), got, wrong, x.holes)
		}
	}
}

// once: job 2 is there, and was rung once.
func once() api.Book {
	return api.Book{Jobs: []api.Job{{ID: 2, Every: 5, Next: 15}}, Rung: []api.Rung{{Job: 2, Time: 10, Client: 1}}}
}

func TestWhatTheUnitsSay(t *testing.T) {
	there := api.Book{Jobs: []api.Job{{ID: 2, Every: 5, Next: 10}}}
	begin := []api.Entry{put, ring}
	wantTold(t, []told{
		{w: world.New()},
		{some(), begin, once(), []int{2, 4, 5, 6, 7}},
		{all(put), []api.Entry{put}, there, nil},
		{all(put, ring), begin, once(), nil},
		// Only what the last unit has is of the log.
		{of([]api.Entry{put}, nil, nil), nil, api.Book{}, []int{0}},
		{of([]api.Entry{put}, []api.Entry{put}, nil), nil, api.Book{}, []int{0}},
		{of(begin, begin, []api.Entry{put}), []api.Entry{put}, there, []int{1}},
		{of(begin, []api.Entry{put}, []api.Entry{put}), []api.Entry{put}, there, []int{1}},
		// Up to the first place that is blank, whatever stands behind it.
		{all(open, put, ring), nil, api.Book{}, []int{0}},
		{all(put, open, ring), []api.Entry{put}, there, []int{1}},
		{all(put, ring, open, open, drop), begin, once(), []int{2, 3}},
		{of(begin, begin, []api.Entry{open, ring}), nil, api.Book{}, []int{0}},
		// Junk is something.
		{all(junk), []api.Entry{junk}, api.Book{}, nil},
		{all(put, junk, ring), []api.Entry{put, junk, ring}, once(), nil},
		{of([]api.Entry{open, junk}, nil, nil), nil, api.Book{}, []int{0, 1}},
	})
}

func TestEndsOfUnits(t *testing.T) {
	last := slices.Concat(slices.Repeat([]api.Entry{open}, 59), []api.Entry{junk})
	lacks := slices.Concat([]api.Entry{open}, full(junk)[1:])
	wantTold(t, []told{
		{all(full(junk)...), full(junk), api.Book{}, nil},
		{of(full(junk), full(junk), full(junk)[:59]), full(junk)[:59], api.Book{}, []int{59}},
		{of(full(junk), full(junk)[:59], full(junk)[:59]), full(junk)[:59], api.Book{}, []int{59}},
		{of(full(junk), nil, nil), nil, api.Book{}, upTo(0, 60)},
		{of(full(junk), full(junk), last), nil, api.Book{}, upTo(0, 59)},
		{all(last...), nil, api.Book{}, upTo(0, 59)},
		{of(last, last, nil), nil, api.Book{}, upTo(0, 60)},
		{of(last, nil, nil), nil, api.Book{}, upTo(0, 60)},
		{of(full(junk), full(junk), lacks), nil, api.Book{}, []int{0}},
		{all(lacks...), nil, api.Book{}, []int{0}},
		{all(full(junk)[:59]...), full(junk)[:59], api.Book{}, nil},
	})
}

func TestBookCountsOnce(t *testing.T) {
	wantTold(t, []told{
		{all(put, ring, other), []api.Entry{put, ring, other}, once(), nil},
		{all(put, ring, ring), []api.Entry{put, ring, ring}, once(), nil},
		{all(ring, put, ring), []api.Entry{ring, put, ring}, once(), nil},
		{all(put, later, ring), []api.Entry{put, later, ring}, once(), nil},
		{all(put, ring, put), []api.Entry{put, ring, put}, once(), nil},
		{all(put, ring, later), []api.Entry{put, ring, later}, api.Book{
			Jobs: []api.Job{{ID: 2, Every: 5, Next: 20}},
			Rung: []api.Rung{{Job: 2, Time: 10, Client: 1}, {Job: 2, Time: 15, Client: 0}},
		}, nil},
		{all(put, ring, drop), []api.Entry{put, ring, drop}, api.Book{Rung: once().Rung}, nil},
		{all(put, low, ring), []api.Entry{put, low, ring}, api.Book{
			Jobs: []api.Job{{ID: 0, Every: 100, Next: api.MaxTime}, {ID: 2, Every: 5, Next: 15}},
			Rung: once().Rung,
		}, nil},
		// A job that was dropped begins anew.
		{all(put, ring, drop, put, other), []api.Entry{put, ring, drop, put, other}, api.Book{
			Jobs: once().Jobs,
			Rung: []api.Rung{{Job: 2, Time: 10, Client: 1}, {Job: 2, Time: 10, Client: 2}},
		}, nil},
	})
}

// A job may be rung at the last time there is, and as often as there are places; then it is due when nobody rings any more.
func TestBookAtItsEnds(t *testing.T) {
	end := api.Entry{Kind: api.Ring, Time: api.MaxTime, Client: 2}
	l := []api.Entry{{Kind: api.Put, Job: 5, Every: 1}}
	b := api.Book{Jobs: []api.Job{{ID: 5, Every: 1, Next: 59}}}
	for i := range 59 {
		l = append(l, api.Entry{Kind: api.Ring, Job: 5, Time: i, Client: i % 3})
		b.Rung = append(b.Rung, api.Rung{Job: 5, Time: i, Client: i % 3})
	}
	wantTold(t, []told{
		{all(low, end), []api.Entry{low, end}, api.Book{
			Jobs: []api.Job{{ID: 0, Every: 100, Next: api.MaxTime + 100}},
			Rung: []api.Rung{{Job: 0, Time: api.MaxTime, Client: 2}},
		}, nil},
		{all(l...), l, b, nil},
	})
}

// What isn't of the last unit's places, nor of the first one's, changes nothing.
func TestWhatElseThereIs(t *testing.T) {
	begin, holes := []api.Entry{put, ring}, []int{2, 4, 5, 6, 7}
	busy := api.Client{Epoch: 20, Doing: api.Writes, E: drop, At: 4, Link: 2, Played: 60, B: api.Book{Jobs: []api.Job{{ID: 1, Every: 1}}}}
	var l []told
	for _, change := range []func(*api.World){
		tipAt(60), timeAt(api.MaxTime), sealed(0, 20), sealed(1, 2), sealed(2, 7),
		clientIs(0, busy), clientIs(1, api.Client{Epoch: 2, Doing: api.Wants, E: ring}),
		// A unit that lost its power has what it had; what waits is of it only once it has power again.
		down(0, ""), down(1, ""), down(2, ""),
		down(0, "8: junk\n"), down(0, "5: drop 2\n59: junk\n"), down(1, "7: junk\n"),
		down(2, "2: junk\n"), down(2, "2: junk\n4: drop 2\n"), down(2, "2: ju"), down(2, "what\n"),
		func(w *api.World) { down(0, "")(w); down(1, "")(w); down(2, "2: junk\n")(w) },
	} {
		l = append(l, told{but(some(), change), begin, once(), holes})
	}
	wantTold(t, l)
}

// Once the last unit has power again, what waited whole is of the log.
func TestWhatWaitedIsTold(t *testing.T) {
	w, wrong := world.Do(but(some(), down(2, "2: junk\n4: dr")), api.Happening{Kind: api.HBoot, N: 2})
	if wrong != api.OK {
		t.Fatalf("Do: %d", wrong)
	}
	wantTold(t, []told{{w, []api.Entry{put, ring, junk, later}, api.Book{
		Jobs: []api.Job{{ID: 2, Every: 5, Next: 20}},
		Rung: []api.Rung{{Job: 2, Time: 10, Client: 1}, {Job: 2, Time: 15, Client: 0}},
	}, []int{4, 5, 6, 7}}})
}

func TestEmptyListsAreLikeNone(t *testing.T) {
	w := world.New()
	for k := range w.N {
		w.N[k].D = api.Disk{Safe: []byte{}, Wait: []byte{}}
	}
	for i := range w.C {
		w.C[i].B = api.Book{Jobs: []api.Job{}, Rung: []api.Rung{}}
	}
	wantTold(t, []told{{w: w}})
}

// wrongWorld: a world that may not be, and what is wrong with it.
type wrongWorld struct {
	w    api.World
	want api.Errno
}

func wrongWorlds() []wrongWorld {
	return []wrongWorld{
		{api.World{}, api.ErrForm},
		{but(some(), func(w *api.World) { w.N = nil }), api.ErrForm},
		{but(some(), func(w *api.World) { w.N = w.N[:2] }), api.ErrForm},
		{but(some(), func(w *api.World) { w.N = append(w.N, unitOf(nil)) }), api.ErrForm},
		{but(some(), func(w *api.World) { w.C = nil }), api.ErrForm},
		{but(some(), func(w *api.World) { w.C = w.C[1:] }), api.ErrForm},
		{but(some(), tipAt(-1)), api.ErrRange},
		{but(some(), tipAt(61)), api.ErrRange},
		{but(some(), timeAt(-1)), api.ErrRange},
		{but(some(), timeAt(api.MaxTime+1)), api.ErrRange},
		{but(some(), timeAt(math.MinInt)), api.ErrRange},

		{but(some(), func(w *api.World) { w.N[0].D.Safe = bytes.Repeat([]byte("x"), 30001) }), api.ErrMany},
		{but(some(), safe(2, strings.Repeat("seal 20\n", 160))), api.ErrMany},
		{but(some(), safe(2, "2: junk")), api.ErrTorn},
		{but(some(), safe(1, "what\n")), api.ErrText},
		{but(some(), safe(0, "60: junk\n")), api.ErrRange},
		{but(some(), safe(2, "0: junk\n")), api.ErrTwice},
		{but(some(), safe(1, "seal 1\n")), api.ErrOld},
		{but(some(), func(w *api.World) { w.N[2].D.Wait = []byte("2") }), api.ErrForm},

		// What a unit has must be what its disk makes of it.
		{but(some(), place(2, 2, junk)), api.ErrForm},
		{but(some(), place(2, 0, open)), api.ErrForm},
		{but(some(), place(2, 2, api.Entry{Kind: api.Blank, Job: 1})), api.ErrForm},
		{but(some(), place(0, 59, junk)), api.ErrForm},
		{but(some(), func(w *api.World) { w.N[2].U.Cells = nil }), api.ErrForm},
		{but(some(), func(w *api.World) { w.N[0].U.Cells = w.N[0].U.Cells[:0] }), api.ErrForm},
		{but(some(), func(w *api.World) { w.N[2].U.Cells = full(junk)[:1] }), api.ErrForm},
		{but(some(), func(w *api.World) { w.N[0].U.Cells = append(w.N[0].U.Cells, junk) }), api.ErrForm},
		{but(some(), func(w *api.World) { w.N[1].U.Epoch = 2 }), api.ErrForm},
		// No unit has what the one ahead hasn't.
		{of(nil, nil, []api.Entry{put}), api.ErrForm},
		{of([]api.Entry{put}, nil, []api.Entry{put}), api.ErrForm},
		{of([]api.Entry{ring}, []api.Entry{ring}, []api.Entry{other}), api.ErrForm},
		{but(some(), down(2, "7: junk\n")), api.ErrForm},
		{but(some(), down(2, "3: junk\n")), api.ErrTwice},
		{but(some(), down(0, "seal 1\n")), api.ErrOld},

		{but(some(), clientIs(0, api.Client{})), api.ErrRange},
		{but(some(), clientIs(1, api.Client{Epoch: 1, Played: 61})), api.ErrRange},
		{but(some(), clientIs(2, api.Client{Epoch: 1, E: put})), api.ErrForm},
		{but(some(), clientIs(2, api.Client{Epoch: 1, B: api.Book{Jobs: make([]api.Job, 7)}})), api.ErrMany},
		{but(some(), clientIs(0, api.Client{Epoch: 1, Doing: api.Writes, E: drop, At: 3, Link: 1})), api.ErrForm},

		// Where more than one thing is wrong, what is told first is the answer.
		{but(some(), tipAt(61), safe(1, "what\n"), clientIs(0, api.Client{})), api.ErrRange},
		{but(some(), safe(1, "what\n"), safe(2, "2: junk"), clientIs(0, api.Client{})), api.ErrText},
		{but(some(), safe(2, "2: junk"), clientIs(0, api.Client{})), api.ErrTorn},
	}
}

func TestWrongWorldsAreRefused(t *testing.T) {
	for _, x := range wrongWorlds() {
		if got, wrong := Log(x.w); got != nil || wrong != x.want {
			t.Errorf("Log(%s): %v, %d, want %d", brief(x.w), got, wrong, x.want)
		}
		if got, wrong := Book(x.w); got.Jobs != nil || got.Rung != nil || wrong != x.want {
			t.Errorf("Book(%s): %v, %d, want %d", brief(x.w), got, wrong, x.want)
		}
		if got, wrong := Holes(x.w); got != nil || wrong != x.want {
			t.Errorf("Holes(%s): %v, %d, want %d", brief(x.w), got, wrong, x.want)
		}
		if wrong := world.Check(x.w); wrong != x.want {
			t.Errorf("world's Check says %d of %s, want %d", wrong, brief(x.w), x.want)
		}
	}
}
