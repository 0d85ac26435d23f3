package world

import (
	"bytes"
	"fmt"
	"math"
	"slices"
	"strings"
	"testing"

	"carillon/api"
)

var (
	put  = api.Entry{Kind: api.Put, Job: 2, Every: 5, Time: 10}
	drop = api.Entry{Kind: api.Drop, Job: 5}
	ring = api.Entry{Kind: api.Ring, Job: 2, Time: 10, Client: 1}
	junk = api.Entry{}
	far  = api.Entry{Kind: api.Drop, Job: api.MaxJobs}
	idle = api.Entry{Kind: api.Put, Job: 1, Time: 1}
)

// at: what stands at which place.
type at map[int]api.Entry

func cells(l at) []api.Entry {
	all := make([]api.Entry, 60)
	for i := range all {
		all[i] = api.Entry{Kind: api.Blank}
	}
	for i, e := range l {
		all[i] = e
	}
	return all
}

func node(epoch int, l at, safe string) api.Node {
	return api.Node{U: api.Unit{Epoch: epoch, Cells: cells(l)}, D: api.Disk{Safe: []byte(safe)}, Up: true}
}

func played() api.Book { return api.Book{Jobs: []api.Job{{ID: 2, Every: 5, Next: 10}}} }

// some: a world in which client 0 rests, client 1 wants to drop a job, and client 2 writes the same at place 4, at the last unit next.
func some() api.World {
	return api.World{
		N: []api.Node{
			node(3, at{0: put, 1: ring, 4: drop, 7: junk}, "0: put 2 5 10\nseal 2\n1: ring 2 10 1\n7: junk\nseal 3\n4: drop 5\n"),
			node(2, at{0: put, 1: ring, 4: drop}, "4: drop 5\n0: put 2 5 10\n1: ring 2 10 1\nseal 2\n"),
			node(1, at{0: put}, "0: put 2 5 10\n"),
		},
		Tip:  8,
		Time: 14,
		C: []api.Client{
			{Epoch: 3, Played: 1, B: played()},
			{Epoch: 2, Doing: api.Wants, E: drop},
			{Epoch: 1, Doing: api.Writes, E: drop, At: 4, Link: 2, Played: 1, B: played()},
		},
	}
}

// with: w, but for what change does to it; w is one that no one else has.
func with(w api.World, change ...func(w *api.World)) api.World {
	for _, by := range change {
		by(&w)
	}
	return w
}

// but: some, but for what change does to it.
func but(change ...func(w *api.World)) api.World { return with(some(), change...) }

func down(k int, wait string) func(*api.World) {
	return func(w *api.World) {
		w.N[k].Up = false
		w.N[k].D.Wait = []byte(wait)
	}
}

// holds: unit k has it, and its disk ends with these lines.
func holds(k, at int, e api.Entry, lines string) func(*api.World) {
	return func(w *api.World) {
		w.N[k].U.Cells[at] = e
		w.N[k].D.Safe = append(w.N[k].D.Safe, lines...)
	}
}

func sealed(k, epoch int, lines string) func(*api.World) {
	return func(w *api.World) {
		w.N[k].U.Epoch = epoch
		w.N[k].D.Safe = append(w.N[k].D.Safe, lines...)
	}
}

func writing(who, epoch int, e api.Entry, at, link int) func(*api.World) {
	return func(w *api.World) {
		c := &w.C[who]
		c.Epoch, c.Doing, c.E, c.At, c.Link = epoch, api.Writes, e, at, link
	}
}

func wanting(who int, e api.Entry) func(*api.World) {
	return func(w *api.World) {
		c := &w.C[who]
		c.Doing, c.E, c.At, c.Link = api.Wants, e, 0, 0
	}
}

func resting(who int) func(*api.World) {
	return func(w *api.World) {
		c := &w.C[who]
		c.Doing, c.E, c.At, c.Link = api.Rests, api.Entry{}, 0, 0
	}
}

func tipAt(n int) func(*api.World) { return func(w *api.World) { w.Tip = n } }

func timeAt(n int) func(*api.World) { return func(w *api.World) { w.Time = n } }

// alike: not by Same, which is under test.
func alike(a, b api.World) bool {
	nodes := slices.EqualFunc(a.N, b.N, func(a, b api.Node) bool {
		return a.U.Epoch == b.U.Epoch && slices.Equal(a.U.Cells, b.U.Cells) &&
			string(a.D.Safe) == string(b.D.Safe) && string(a.D.Wait) == string(b.D.Wait) && a.Up == b.Up
	})
	clients := slices.EqualFunc(a.C, b.C, func(a, b api.Client) bool {
		books := slices.Equal(a.B.Jobs, b.B.Jobs) && slices.Equal(a.B.Rung, b.B.Rung)
		a.B, b.B = api.Book{}, api.Book{}
		return books && fmt.Sprint(a) == fmt.Sprint(b)
	})
	return nodes && clients && a.Tip == b.Tip && a.Time == b.Time
}

func isZero(w api.World) bool { return w.N == nil && w.C == nil && w.Tip == 0 && w.Time == 0 }

func TestNew(t *testing.T) {
	one := api.Node{U: api.Unit{Epoch: 1, Cells: cells(nil)}, Up: true}
	want := api.World{N: []api.Node{one, one, one}, C: []api.Client{{Epoch: 1}, {Epoch: 1}, {Epoch: 1}}}
	if got := New(); !alike(got, want) {
		t.Errorf("New: %v, want %v", got, want)
	}
	if a, b := New(), New(); &a.N[0].U.Cells[0] == &b.N[0].U.Cells[0] || &a.N[0].U.Cells[0] == &a.N[1].U.Cells[0] {
		t.Error("two new units share their places")
	}
}

func TestCheckLetsPass(t *testing.T) {
	l := []api.World{
		New(), some(),
		but(tipAt(0), timeAt(0)), but(tipAt(60), timeAt(api.MaxTime)),

		// What waits where a unit is down may be any bytes, as far as the unit can be made of them.
		but(down(0, "")), but(down(0, ""), down(1, ""), down(2, "")),
		but(down(0, "8: junk\n")), but(down(0, "8: ju")), but(down(0, "what\n")), but(down(0, "\n\n")),
		but(down(0, "what\n0: junk\n")), but(down(0, "0: junk")), but(down(0, "seal 4\nseal 4")),
		but(down(2, "1: ring 2 10 1\n4: drop 5\n")), but(down(2, "1: ring 2 10 1\n4: junk")),
		but(down(0, strings.Repeat("x", 29900))),

		// Only a client that isn't at the first unit needs another unit to have its entry.
		but(writing(0, 3, put, 59, 0)), but(writing(0, 1, junk, 1, 0)),
		but(writing(0, 1, junk, 7, 1)), but(writing(0, 20, put, 0, 2)),
		but(writing(2, 1, drop, 4, 1), down(0, "")),
	}
	for _, w := range l {
		if wrong := Check(w); wrong != api.OK {
			t.Errorf("Check(%v): %d", w, wrong)
		}
	}
}

type wrongWorld struct {
	w    api.World
	want api.Errno
}

// wrongWorlds: what may not be, and what Check says of it.
func wrongWorlds() []wrongWorld {
	return slices.Concat(wrongNumbers(), wrongNodes(), wrongClients())
}

func wrongNumbers() []wrongWorld {
	return []wrongWorld{
		{api.World{}, api.ErrForm},
		{api.World{C: some().C}, api.ErrForm},
		{api.World{N: some().N}, api.ErrForm},
		{but(func(w *api.World) { w.N = w.N[:2] }), api.ErrForm},
		{but(func(w *api.World) { w.N = w.N[1:] }), api.ErrForm},
		{but(func(w *api.World) { w.N = append(w.N, node(1, nil, "")) }), api.ErrForm},
		{but(func(w *api.World) { w.C = w.C[:2] }), api.ErrForm},
		{but(func(w *api.World) { w.C = append(w.C, api.Client{Epoch: 1}) }), api.ErrForm},

		{but(tipAt(-1)), api.ErrRange},
		{but(tipAt(61)), api.ErrRange},
		{but(tipAt(math.MinInt)), api.ErrRange},
		{but(tipAt(math.MaxInt)), api.ErrRange},
		{but(timeAt(-1)), api.ErrRange},
		{but(timeAt(api.MaxTime + 1)), api.ErrRange},
		{but(timeAt(math.MinInt)), api.ErrRange},
		{but(timeAt(math.MaxInt)), api.ErrRange},
	}
}

func wrongNodes() []wrongWorld {
	safe := func(k int, lines string) func(*api.World) {
		return func(w *api.World) { w.N[k].D.Safe = append(w.N[k].D.Safe, lines...) }
	}
	upWith := func(k int, wait string) func(*api.World) {
		return func(w *api.World) { w.N[k].D.Wait = []byte(wait) }
	}
	place := func(k, at int, e api.Entry) func(*api.World) {
		return func(w *api.World) { w.N[k].U.Cells[at] = e }
	}
	return []wrongWorld{
		{but(down(1, strings.Repeat("x", 30000))), api.ErrMany},
		{but(safe(2, strings.Repeat("seal 20\n", 160))), api.ErrMany},
		{but(safe(0, "seal 4")), api.ErrTorn},
		{but(safe(1, "what\n")), api.ErrText},
		{but(safe(1, "60: junk\n")), api.ErrRange},
		{but(safe(2, "1: put 1 0 1\n")), api.ErrForm},

		{but(upWith(0, "x")), api.ErrForm},
		{but(upWith(1, "seal 3\n")), api.ErrForm},
		{but(upWith(2, "\n")), api.ErrForm},

		{but(safe(0, "4: drop 5\n")), api.ErrTwice},
		{but(safe(1, "4: junk\n")), api.ErrTwice},
		{but(safe(1, "seal 2\n")), api.ErrOld},
		{but(safe(2, "seal 1\n"), down(2, "")), api.ErrOld},

		{but(safe(0, "8: junk\n")), api.ErrForm},
		{but(safe(0, "seal 4\n")), api.ErrForm},
		{but(place(0, 8, junk)), api.ErrForm},
		{but(place(0, 7, drop)), api.ErrForm},
		{but(place(2, 0, api.Entry{Kind: api.Blank})), api.ErrForm},
		{but(place(2, 1, api.Entry{Kind: api.Blank, Job: 1})), api.ErrForm},
		{but(func(w *api.World) { w.N[1].U.Epoch = 3 }), api.ErrForm},
		{but(func(w *api.World) { w.N[1].U.Epoch = -3 }), api.ErrForm},
		{but(func(w *api.World) { w.N[1].U.Cells = w.N[1].U.Cells[:59] }), api.ErrForm},
		{but(func(w *api.World) { w.N[0].U.Cells = nil }), api.ErrForm},
		{but(func(w *api.World) { w.N[2].U = api.Unit{} }), api.ErrForm},
		// What waits isn't yet of the unit.
		{but(down(0, "8: junk\n"), place(0, 8, junk)), api.ErrForm},

		{but(down(0, "0: put 2 5 10\n")), api.ErrTwice},
		{but(down(1, "2: junk\n4: drop 5\n")), api.ErrTwice},
		{but(down(2, "1: ring 2 10 1\n1: ring 2 10 1\n")), api.ErrTwice},
		{but(down(0, "seal 3\n")), api.ErrOld},
		{but(down(2, "seal 7\nseal 6\n")), api.ErrOld},

		{but(holds(1, 8, junk, "8: junk\n")), api.ErrForm},
		{but(holds(2, 7, junk, "7: junk\n")), api.ErrForm},
		{but(holds(2, 1, junk, "1: junk\n")), api.ErrForm},
		{but(holds(2, 1, api.Entry{Kind: api.Ring, Job: 2, Time: 10, Client: 2}, "1: ring 2 10 2\n")), api.ErrForm},
		{but(down(2, "4: drop 4\n")), api.ErrForm},
		{but(holds(1, 7, drop, "7: drop 5\n")), api.ErrForm},
		{but(down(1, "8: junk\n")), api.ErrForm},
		{but(down(2, "7: junk\n")), api.ErrForm},
		{but(down(2, "1: ring 2 10 1\n4: junk\n")), api.ErrForm},
		// What waits at the unit ahead doesn't count.
		{but(down(0, "8: junk\n"), holds(1, 8, junk, "8: junk\n")), api.ErrForm},
		{but(down(0, "8: junk\n"), down(1, "8: junk\n")), api.ErrForm},
	}
}

func wrongClients() []wrongWorld {
	client := func(who int, change func(c *api.Client)) func(*api.World) {
		return func(w *api.World) { change(&w.C[who]) }
	}
	return []wrongWorld{
		{but(client(0, func(c *api.Client) { *c = api.Client{} })), api.ErrRange},
		{but(client(1, func(c *api.Client) { c.Epoch = 21 })), api.ErrRange},
		{but(client(2, func(c *api.Client) { c.Link = 3 })), api.ErrRange},
		{but(client(2, func(c *api.Client) { c.At = 60 })), api.ErrRange},
		{but(client(0, func(c *api.Client) { c.E = drop })), api.ErrForm},
		{but(client(1, func(c *api.Client) { c.E = junk })), api.ErrForm},
		{but(client(2, func(c *api.Client) { c.E = far })), api.ErrRange},
		{but(client(0, func(c *api.Client) { c.B.Jobs = make([]api.Job, 7) })), api.ErrMany},
		{but(client(2, func(c *api.Client) { c.B.Jobs = append(c.B.Jobs, c.B.Jobs...) })), api.ErrTwice},

		{but(writing(0, 1, put, 9, 1)), api.ErrForm},
		{but(writing(0, 1, junk, 9, 2)), api.ErrForm},
		{but(writing(0, 1, junk, 0, 1)), api.ErrForm},
		{but(writing(1, 1, put, 1, 1)), api.ErrForm},
		{but(writing(1, 1, junk, 7, 2)), api.ErrForm},
		{but(writing(2, 1, api.Entry{Kind: api.Ring, Job: 2, Time: 10, Client: 2}, 1, 1)), api.ErrForm},
		{but(down(0, "8: junk\n"), writing(2, 1, junk, 8, 1)), api.ErrForm},
	}
}

func TestCheckSaysWhatIsWrong(t *testing.T) {
	for _, x := range wrongWorlds() {
		if got := Check(x.w); got != x.want {
			t.Errorf("Check(%v): %d, want %d", x.w, got, x.want)
		}
	}
}

// fault: what may be done to a world, so that this is wrong with it.
type fault struct {
	change func(w *api.World)
	want   api.Errno
}

// faults: in the order in which they are told; where more than one is done to a world, the last one is done first.
func faults() []fault {
	l := []fault{
		{func(w *api.World) { w.C = append(w.C, api.Client{}) }, api.ErrForm},
		{func(w *api.World) { w.Time = -1 }, api.ErrRange},
	}
	for k := range 3 {
		l = append(l, faultsOfNode(k)...)
	}
	for i := range 3 {
		l = append(l,
			fault{func(w *api.World) { w.C[i].Epoch = 0 }, api.ErrRange},
			fault{writing(i, 1, junk, 55, 1), api.ErrForm})
	}
	return l
}

func faultsOfNode(k int) []fault {
	l := []fault{
		{func(w *api.World) { w.N[k].D.Safe = append(w.N[k].D.Safe, 'x') }, api.ErrTorn},
		{func(w *api.World) { w.N[k].D.Wait = append(w.N[k].D.Wait, 'x'); w.N[k].Up = true }, api.ErrForm},
		{func(w *api.World) { w.N[k].D.Safe = append(w.N[k].D.Safe, "0: junk\n"...) }, api.ErrTwice},
		{func(w *api.World) { w.N[k].U.Epoch = 7 }, api.ErrForm},
		{down(k, "0: drop 1\n"), api.ErrTwice},
	}
	if k == 0 {
		return l
	}
	return append(l, fault{holds(k, 50, junk, "50: junk\n"), api.ErrForm})
}

// Of several errors the one that is told first is the answer: here are all choices of up to three faults.
func TestCheckSaysFirstWhatIsToldFirst(t *testing.T) {
	l := faults()
	for a := range l {
		for b := a; b < len(l); b++ {
			for c := b; c < len(l); c++ {
				w := some()
				for _, i := range slices.Compact([]int{c, b, a}) {
					l[i].change(&w)
				}
				if got := Check(w); got != l[a].want {
					t.Errorf("faults %d, %d, %d: %d, want %d", a, b, c, got, l[a].want)
				}
			}
		}
	}
}

// Ahead of what else is wrong, Do and Run say what Check says.
func TestSayFirstWhatCheckSays(t *testing.T) {
	for _, x := range wrongWorlds() {
		for kind := range 17 {
			for _, who := range []int{0, 3} {
				h := api.Happening{Kind: kind, Client: who, N: who, E: put}
				if got, wrong := Do(x.w, h); !isZero(got) || wrong != x.want {
					t.Errorf("Do(%v, %v): %v, %d, want nothing and %d", x.w, h, got, wrong, x.want)
				}
			}
		}
		for _, n := range []int{0, 1, 151} {
			if got, said, wrong := Run(x.w, make([]api.Happening, n)); !isZero(got) || said != nil || wrong != x.want {
				t.Errorf("Run of %d: %v, %v, %d, want nothing and %d", n, got, said, wrong, x.want)
			}
		}
	}
}

func TestSame(t *testing.T) {
	changes := []func(w *api.World){
		func(w *api.World) {},
		tipAt(9), timeAt(15), tipAt(-9), timeAt(math.MaxInt),
		func(w *api.World) { w.N = w.N[:2] },
		func(w *api.World) { w.N = nil },
		func(w *api.World) { w.N[0], w.N[1] = w.N[1], w.N[0] },
		func(w *api.World) { w.N[2].Up = false },
		func(w *api.World) { w.N[0].U.Epoch = 99 },
		func(w *api.World) { w.N[1].U.Cells[59].Job = 99 },
		func(w *api.World) { w.N[1].U.Cells = w.N[1].U.Cells[:59] },
		func(w *api.World) { w.N[2].D.Safe[0] = '1' },
		func(w *api.World) { w.N[2].D.Safe = append(w.N[2].D.Safe, 0) },
		func(w *api.World) { w.N[0].D.Wait = []byte("x") },
		func(w *api.World) { w.C = append(w.C, api.Client{}) },
		func(w *api.World) { w.C[0], w.C[1] = w.C[1], w.C[0] },
		func(w *api.World) { w.C[0].Epoch = 99 },
		func(w *api.World) { w.C[1].Doing = 99 },
		func(w *api.World) { w.C[1].E.Every = 99 },
		func(w *api.World) { w.C[2].At = 99 },
		func(w *api.World) { w.C[2].Link = 99 },
		func(w *api.World) { w.C[2].Played = 99 },
		func(w *api.World) { w.C[0].B.Jobs[0].Next = 99 },
		func(w *api.World) { w.C[2].B.Jobs = nil },
		func(w *api.World) { w.C[2].B.Rung = make([]api.Rung, 1) },
		func(w *api.World) { *w = api.World{} },
	}
	for i, a := range changes {
		for j, b := range changes {
			if got, want := Same(but(a), but(b)), i == j; got != want {
				t.Errorf("Same of changes %d and %d: %t, want %t", i, j, got, want)
			}
		}
	}
	empty := but(func(w *api.World) {
		for i := range w.C {
			w.C[i].B.Rung = []api.Rung{}
		}
		for k := range w.N {
			w.N[k].D.Wait = []byte{}
		}
	})
	if !Same(some(), empty) || !Same(empty, some()) || !Same(api.World{}, api.World{N: []api.Node{}, C: []api.Client{}}) {
		t.Error("a list that is nil and one that has nothing in it are told apart")
	}
}

// step: what a happening makes of a world.
type step struct {
	w    api.World
	x    api.Happening
	want api.World
}

func wantSteps(t *testing.T, l []step) {
	t.Helper()
	for _, x := range l {
		if wrong := Check(x.w); wrong != api.OK {
			t.Fatalf("Check(%v): %d", x.w, wrong)
		}
		if got, wrong := Do(x.w, x.x); !alike(got, x.want) || wrong != api.OK || Check(got) != api.OK {
			t.Errorf("Do(%v, %v): %v, %d, want %v", x.w, x.x, got, wrong, x.want)
		}
	}
}

// refusal: what is wrong with a happening.
type refusal struct {
	w    api.World
	x    api.Happening
	want api.Errno
}

func wantRefusals(t *testing.T, l []refusal) {
	t.Helper()
	for _, x := range l {
		if wrong := Check(x.w); wrong != api.OK {
			t.Fatalf("Check(%v): %d", x.w, wrong)
		}
		if got, wrong := Do(x.w, x.x); !isZero(got) || wrong != x.want {
			t.Errorf("Do(%v, %v): %v, %d, want nothing and %d", x.w, x.x, got, wrong, x.want)
		}
	}
}

func TestNoSuchKind(t *testing.T) {
	for _, kind := range []int{0, -1, 16, 99, math.MinInt, math.MaxInt} {
		wantRefusals(t, []refusal{
			{some(), api.Happening{Kind: kind}, api.ErrForm},
			{New(), api.Happening{Kind: kind, Client: 3, N: 99, E: far}, api.ErrForm},
		})
	}
}

func TestTip(t *testing.T) {
	to := func(n int) api.Happening { return api.Happening{Kind: api.HTip, N: n} }
	wantSteps(t, []step{
		{some(), to(0), but(tipAt(0))},
		{some(), to(8), some()},
		{some(), to(60), but(tipAt(60))},
		{some(), api.Happening{Kind: api.HTip, N: 7, Client: 9, E: far}, but(tipAt(7))},
		{but(down(0, ""), down(1, ""), down(2, "")), to(1), but(down(0, ""), down(1, ""), down(2, ""), tipAt(1))},
	})
	for _, n := range []int{-1, 61, math.MinInt, math.MaxInt} {
		wantRefusals(t, []refusal{{some(), to(n), api.ErrRange}})
	}
}

func TestTick(t *testing.T) {
	by := func(n int) api.Happening { return api.Happening{Kind: api.HTick, N: n} }
	wantSteps(t, []step{
		{some(), by(1), but(timeAt(15))},
		{some(), by(api.MaxTime - 14), but(timeAt(api.MaxTime))},
		{New(), by(api.MaxTime), with(New(), timeAt(api.MaxTime))},
		{but(timeAt(api.MaxTime - 1)), by(1), but(timeAt(api.MaxTime))},
		{some(), api.Happening{Kind: api.HTick, N: 3, Client: -1, E: far}, but(timeAt(17))},
	})
	wantRefusals(t, []refusal{
		{some(), by(0), api.ErrRange},
		{some(), by(-1), api.ErrRange},
		{some(), by(-14), api.ErrRange},
		{some(), by(api.MaxTime - 13), api.ErrRange},
		{some(), by(math.MinInt), api.ErrRange},
		{some(), by(math.MaxInt), api.ErrRange},
		{but(timeAt(api.MaxTime)), by(1), api.ErrRange},
		{but(timeAt(api.MaxTime)), by(0), api.ErrRange},
	})
}

func TestSeal(t *testing.T) {
	of := func(k, epoch int) api.Happening { return api.Happening{Kind: api.HSeal, N: k, Epoch: epoch} }
	wantSteps(t, []step{
		{some(), of(0, 4), but(sealed(0, 4, "seal 4\n"))},
		{some(), of(0, 20), but(sealed(0, 20, "seal 20\n"))},
		{some(), of(1, 3), but(sealed(1, 3, "seal 3\n"))},
		{some(), of(2, 2), but(sealed(2, 2, "seal 2\n"))},
		{some(), api.Happening{Kind: api.HSeal, N: 2, Epoch: 9, Client: 3, E: far}, but(sealed(2, 9, "seal 9\n"))},
		// The others go on, up or down.
		{but(down(0, "x"), down(1, "")), of(2, 2), but(down(0, "x"), down(1, ""), sealed(2, 2, "seal 2\n"))},
	})
	wantRefusals(t, []refusal{
		{some(), of(-1, 4), api.ErrWho},
		{some(), of(3, 4), api.ErrWho},
		{some(), of(math.MinInt, 4), api.ErrWho},
		{some(), of(math.MaxInt, 4), api.ErrWho},
		{but(down(0, "")), of(0, 4), api.ErrLate},
		{some(), of(0, 0), api.ErrRange},
		{some(), of(0, -1), api.ErrRange},
		{some(), of(0, 21), api.ErrRange},
		{some(), of(0, 3), api.ErrOld},
		{some(), of(0, 1), api.ErrOld},
		{some(), of(1, 2), api.ErrOld},
		{some(), of(2, 1), api.ErrOld},

		{but(down(0, "")), of(3, 21), api.ErrWho},
		{but(down(0, "")), of(0, 21), api.ErrLate},
		{but(down(0, "")), of(0, 1), api.ErrLate},
	})
}

func TestLearn(t *testing.T) {
	of := func(who, k int) api.Happening { return api.Happening{Kind: api.HLearn, Client: who, N: k} }
	epoch := func(who, n int) func(*api.World) { return func(w *api.World) { w.C[who].Epoch = n } }
	wantSteps(t, []step{
		{some(), of(1, 0), but(epoch(1, 3))},
		{some(), of(2, 0), but(epoch(2, 3))},
		{some(), of(2, 1), but(epoch(2, 2))},
		{but(sealed(2, 20, "seal 20\n")), of(0, 2), but(sealed(2, 20, "seal 20\n"), epoch(0, 20))},
		{but(down(0, ""), down(2, "")), of(2, 1), but(down(0, ""), down(2, ""), epoch(2, 2))},
		// It is the unit's epoch that it learns, not the one of the happening.
		{some(), api.Happening{Kind: api.HLearn, Client: 2, N: 1, Epoch: 9}, but(epoch(2, 2))},
	})
	wantRefusals(t, []refusal{
		{some(), of(1, -1), api.ErrWho},
		{some(), of(1, 3), api.ErrWho},
		{some(), of(1, math.MaxInt), api.ErrWho},
		{but(down(0, "")), of(1, 0), api.ErrLate},
		{some(), of(-1, 0), api.ErrWho},
		{some(), of(3, 0), api.ErrWho},
		{some(), of(math.MinInt, 0), api.ErrWho},
		{some(), of(0, 0), api.ErrOld},
		{some(), of(0, 1), api.ErrOld},
		{some(), of(1, 1), api.ErrOld},
		{some(), of(2, 2), api.ErrOld},

		{but(down(0, "")), of(3, 3), api.ErrWho},
		{but(down(0, "")), of(3, 0), api.ErrLate},
		{but(down(0, "")), of(0, 0), api.ErrLate},
	})
}

func TestCrash(t *testing.T) {
	of := func(k int) api.Happening { return api.Happening{Kind: api.HCrash, N: k} }
	wantSteps(t, []step{
		{some(), of(0), but(down(0, ""))},
		{some(), of(1), but(down(1, ""))},
		{some(), of(2), but(down(2, ""))},
		{but(down(0, "x"), down(1, "")), of(2), but(down(0, "x"), down(1, ""), down(2, ""))},
		{some(), api.Happening{Kind: api.HCrash, N: 1, Client: 3, Epoch: 99}, but(down(1, ""))},
	})
	wantRefusals(t, []refusal{
		{some(), of(-1), api.ErrWho},
		{some(), of(3), api.ErrWho},
		{some(), of(math.MinInt), api.ErrWho},
		{some(), of(math.MaxInt), api.ErrWho},
		{but(down(0, "")), of(0), api.ErrLate},
		{but(down(2, "1: ring 2 10 1\n")), of(2), api.ErrLate},
		{but(down(2, "")), of(3), api.ErrWho},
	})
}

func TestBoot(t *testing.T) {
	of := func(k int) api.Happening { return api.Happening{Kind: api.HBoot, N: k} }
	rung := holds(2, 1, ring, "1: ring 2 10 1\n")
	both := func(w *api.World) { rung(w); holds(2, 4, drop, "4: drop 5\n")(w) }
	wantSteps(t, []step{
		{but(down(0, "")), of(0), some()},
		{but(down(1, "")), of(1), some()},
		{but(down(2, "")), of(2), some()},
		{but(down(2, "1: ring 2 10 1\n")), of(2), but(rung)},
		{but(down(2, "1: ring 2 10 1\n4: drop 5\n")), of(2), but(both)},
		{but(down(2, "1: ring 2 10 1\nseal 9\n")), of(2), but(rung, sealed(2, 9, "seal 9\n"))},
		// What isn't whole is gone, with all behind it.
		{but(down(2, "1: ring 2 10 1")), of(2), some()},
		{but(down(2, "1: ring 2 10 1\n4: dro")), of(2), but(rung)},
		{but(down(2, "1: ring 2 10 1\n4: dro\n4: drop 5\n")), of(2), but(rung)},
		{but(down(2, "\n1: ring 2 10 1\n")), of(2), some()},
		{but(down(0, "8: junk\n"), down(1, "7: junk\n"), down(2, "x")), of(0), but(holds(0, 8, junk, "8: junk\n"), down(1, "7: junk\n"), down(2, "x"))},
		{but(down(0, "8: junk\n"), down(1, "7: junk\n"), down(2, "x")), of(1), but(down(0, "8: junk\n"), holds(1, 7, junk, "7: junk\n"), down(2, "x"))},
	})
	wantRefusals(t, []refusal{
		{some(), of(-1), api.ErrWho},
		{some(), of(3), api.ErrWho},
		{some(), of(math.MinInt), api.ErrWho},
		{some(), of(math.MaxInt), api.ErrWho},
		{some(), of(0), api.ErrLate},
		{but(down(0, "")), of(1), api.ErrLate},
		{but(down(0, "")), of(3), api.ErrWho},
	})
}

func TestWant(t *testing.T) {
	of := func(who int, e api.Entry) api.Happening { return api.Happening{Kind: api.HWant, Client: who, E: e} }
	wantSteps(t, []step{
		{some(), of(0, put), but(wanting(0, put))},
		{some(), of(0, drop), but(wanting(0, drop))},
		{New(), of(2, put), with(New(), wanting(2, put))},
		{some(), api.Happening{Kind: api.HWant, E: drop, N: 99, Job: 99, Epoch: 99}, but(wanting(0, drop))},
		{but(down(0, ""), down(1, ""), down(2, "")), of(0, put), but(down(0, ""), down(1, ""), down(2, ""), wanting(0, put))},
	})
	wantRefusals(t, []refusal{
		{some(), of(-1, put), api.ErrWho},
		{some(), of(3, put), api.ErrWho},
		{some(), of(0, ring), api.ErrForm},
		{some(), of(0, api.Entry{Kind: api.Ring, Job: 99}), api.ErrForm},
		{some(), of(1, put), api.ErrLate},
		{some(), of(2, put), api.ErrLate},
		{some(), of(0, far), api.ErrRange},
		{some(), of(0, idle), api.ErrForm},
		{some(), of(0, junk), api.ErrForm},
		{some(), of(0, api.Entry{Kind: api.Blank}), api.ErrForm},

		{some(), of(3, ring), api.ErrWho},
		{some(), of(1, ring), api.ErrForm},
		{some(), of(1, far), api.ErrLate},
	})
}

func TestRing(t *testing.T) {
	of := func(who, job int) api.Happening { return api.Happening{Kind: api.HRing, Client: who, Job: job} }
	rings := func(who int) func(*api.World) {
		return wanting(who, api.Entry{Kind: api.Ring, Job: 2, Time: 10, Client: who})
	}
	wantSteps(t, []step{
		{some(), of(0, 2), but(rings(0))},
		{but(timeAt(10)), of(0, 2), but(timeAt(10), rings(0))},
		{but(timeAt(api.MaxTime)), of(0, 2), but(timeAt(api.MaxTime), rings(0))},
		{but(resting(2)), of(2, 2), but(rings(2))},
		{some(), api.Happening{Kind: api.HRing, Job: 2, N: 99, Epoch: 99, E: far}, but(rings(0))},
	})
	wantRefusals(t, []refusal{
		{some(), of(-1, 2), api.ErrWho},
		{some(), of(3, 2), api.ErrWho},
		{some(), of(1, 2), api.ErrLate},
		{some(), of(2, 2), api.ErrLate},
		{but(timeAt(9)), of(0, 2), api.ErrWho},
		{but(timeAt(0)), of(0, 2), api.ErrWho},
		{some(), of(0, 5), api.ErrWho},
		{some(), of(0, -1), api.ErrWho},
		// Who has played nothing knows of no job.
		{but(resting(1)), of(1, 2), api.ErrWho},

		{but(timeAt(9)), of(1, 2), api.ErrLate},
	})
}

func TestPlace(t *testing.T) {
	of := func(who int) api.Happening { return api.Happening{Kind: api.HPlace, Client: who} }
	wantSteps(t, []step{
		{some(), of(1), but(writing(1, 2, drop, 8, 0), tipAt(9))},
		{but(tipAt(0)), of(1), but(writing(1, 2, drop, 0, 0), tipAt(1))},
		{but(tipAt(59)), of(1), but(writing(1, 2, drop, 59, 0), tipAt(60))},
		{some(), api.Happening{Kind: api.HPlace, Client: 1, N: 3, E: far}, but(writing(1, 2, drop, 8, 0), tipAt(9))},
		{but(down(0, ""), down(1, ""), down(2, "")), of(1), but(down(0, ""), down(1, ""), down(2, ""), writing(1, 2, drop, 8, 0), tipAt(9))},
	})
	wantRefusals(t, []refusal{
		{some(), of(-1), api.ErrWho},
		{some(), of(3), api.ErrWho},
		{but(tipAt(60)), of(1), api.ErrMany},
		{some(), of(0), api.ErrLate},
		{some(), of(2), api.ErrLate},

		{but(tipAt(60)), of(3), api.ErrWho},
		{but(tipAt(60)), of(0), api.ErrMany},
	})
}

func TestFill(t *testing.T) {
	of := func(who, at int) api.Happening { return api.Happening{Kind: api.HFill, Client: who, N: at} }
	wantSteps(t, []step{
		{some(), of(0, 0), but(writing(0, 3, junk, 0, 0))},
		{some(), of(0, 7), but(writing(0, 3, junk, 7, 0))},
		// Whether the tip has given it or not.
		{some(), of(0, 59), but(writing(0, 3, junk, 59, 0))},
		{New(), of(2, 5), with(New(), writing(2, 1, junk, 5, 0))},
		{some(), api.Happening{Kind: api.HFill, N: 3, Job: 99, E: put}, but(writing(0, 3, junk, 3, 0))},
	})
	wantRefusals(t, []refusal{
		{some(), of(-1, 7), api.ErrWho},
		{some(), of(3, 7), api.ErrWho},
		{some(), of(1, 7), api.ErrLate},
		{some(), of(2, 7), api.ErrLate},
		{some(), of(0, -1), api.ErrWho},
		{some(), of(0, 60), api.ErrWho},
		{some(), of(0, math.MaxInt), api.ErrWho},

		{some(), of(1, 60), api.ErrLate},
	})
}

func TestPlay(t *testing.T) {
	of := func(who int) api.Happening { return api.Happening{Kind: api.HPlay, Client: who} }
	rung := holds(2, 1, ring, "1: ring 2 10 1\n")
	plays := func(who, n int, b api.Book) func(*api.World) {
		return func(w *api.World) { w.C[who].Played, w.C[who].B = n, b }
	}
	after := api.Book{Jobs: []api.Job{{ID: 2, Every: 5, Next: 15}}, Rung: []api.Rung{{Job: 2, Time: 10, Client: 1}}}
	all := func(w *api.World) {
		for k := range w.N {
			holds(k, 59, junk, "59: junk\n")(w)
		}
	}
	wantSteps(t, []step{
		{some(), of(1), but(plays(1, 1, played()))},
		{but(all, plays(0, 59, played())), of(0), but(all, plays(0, 60, played()))},
		{but(rung), of(0), but(rung, plays(0, 2, after))},
		// Whatever else it does, and whatever time it is.
		{but(rung, timeAt(0)), of(2), but(rung, timeAt(0), plays(2, 2, after))},
		{but(down(0, ""), down(1, "")), of(1), but(down(0, ""), down(1, ""), plays(1, 1, played()))},
		{some(), api.Happening{Kind: api.HPlay, Client: 1, N: 40, E: far}, but(plays(1, 1, played()))},
	})
	full := plays(0, 60, played())
	wantRefusals(t, []refusal{
		{some(), of(-1), api.ErrWho},
		{some(), of(3), api.ErrWho},
		{but(full), of(0), api.ErrMany},
		{but(down(2, "")), of(1), api.ErrLate},
		// Only the last unit says that it is there for ever.
		{some(), of(0), api.ErrLate},
		{New(), of(0), api.ErrLate},
		{but(rung, plays(0, 2, after)), of(0), api.ErrLate},
		{but(down(2, "1: ring 2 10 1\n")), of(0), api.ErrLate},

		{but(full), of(3), api.ErrWho},
		{but(full, down(2, "")), of(0), api.ErrMany},
	})
}

func TestForget(t *testing.T) {
	of := func(who int) api.Happening { return api.Happening{Kind: api.HForget, Client: who} }
	anew := func(who int) func(*api.World) {
		return func(w *api.World) { w.C[who] = api.Client{Epoch: 1} }
	}
	wantSteps(t, []step{
		{some(), of(0), but(anew(0))},
		{some(), of(1), but(anew(1))},
		{some(), of(2), but(anew(2))},
		{New(), of(2), New()},
		{but(down(0, ""), down(1, ""), down(2, "")), of(1), but(down(0, ""), down(1, ""), down(2, ""), anew(1))},
		{some(), api.Happening{Kind: api.HForget, Client: 1, N: 9, Epoch: 7, E: far}, but(anew(1))},
	})
	for _, who := range []int{-1, 3, math.MinInt, math.MaxInt} {
		wantRefusals(t, []refusal{{some(), of(who), api.ErrWho}})
	}
}

// link: a client that writes, the node that it makes, and what it does if it hears of it.
type link struct {
	from, node, hears func(*api.World)
}

func links() []link {
	nothing := func(w *api.World) {}
	return []link{
		// At the place nothing stands yet.
		{writing(0, 3, put, 9, 0), holds(0, 9, put, "9: put 2 5 10\n"), writing(0, 3, put, 9, 1)},
		{writing(0, 3, junk, 9, 0), holds(0, 9, junk, "9: junk\n"), writing(0, 3, junk, 9, 1)},
		{writing(0, 3, ring, 59, 0), holds(0, 59, ring, "59: ring 2 10 1\n"), writing(0, 3, ring, 59, 1)},
		{writing(0, 2, junk, 7, 1), holds(1, 7, junk, "7: junk\n"), writing(0, 2, junk, 7, 2)},
		{writing(0, 1, ring, 1, 2), holds(2, 1, ring, "1: ring 2 10 1\n"), resting(0)},
		{writing(0, 1, drop, 4, 2), holds(2, 4, drop, "4: drop 5\n"), resting(0)},
		// It stands there already.
		{writing(0, 3, put, 0, 0), nothing, writing(0, 3, put, 0, 1)},
		{writing(0, 2, ring, 1, 1), nothing, writing(0, 2, ring, 1, 2)},
		{writing(0, 1, put, 0, 2), nothing, resting(0)},
		{writing(0, 3, junk, 7, 0), nothing, writing(0, 3, junk, 7, 1)},
		// Another one stands there.
		{writing(0, 3, drop, 7, 0), nothing, wanting(0, drop)},
		{writing(0, 3, put, 1, 0), nothing, wanting(0, put)},
		{writing(0, 3, junk, 1, 0), nothing, writing(0, 3, ring, 1, 1)},
		{writing(0, 3, junk, 0, 0), nothing, writing(0, 3, put, 0, 1)},
	}
}

func TestLinkAndDeaf(t *testing.T) {
	for _, x := range links() {
		epoch := func(w *api.World) { w.C[0].Epoch = but(x.from).C[0].Epoch }
		others := down(but(x.from).C[0].Link, "")
		wantSteps(t, []step{
			{but(x.from), api.Happening{Kind: api.HLink}, but(epoch, x.node, x.hears)},
			{but(x.from), api.Happening{Kind: api.HLink, N: 9, Job: 9, Epoch: 9, E: far}, but(epoch, x.node, x.hears)},
			{but(x.from), api.Happening{Kind: api.HDeaf}, but(x.from, x.node)},
			// The others may be down.
			{but(x.from, allBut(others)), api.Happening{Kind: api.HLink}, but(epoch, allBut(others), x.node, x.hears)},
			{but(x.from, allBut(others)), api.Happening{Kind: api.HDeaf}, but(x.from, allBut(others), x.node)},
		})
	}
	wantSteps(t, []step{
		{some(), api.Happening{Kind: api.HLink, Client: 2}, but(holds(2, 4, drop, "4: drop 5\n"), resting(2))},
		{some(), api.Happening{Kind: api.HDeaf, Client: 2}, but(holds(2, 4, drop, "4: drop 5\n"))},
	})
}

// allBut: all nodes are down but the one that down takes.
func allBut(down func(*api.World)) func(*api.World) {
	return func(w *api.World) {
		down(w)
		for k := range w.N {
			w.N[k].Up = !w.N[k].Up
		}
	}
}

func TestTear(t *testing.T) {
	line := "4: drop 5\n"
	for n := -1; n <= len(line)+1; n++ {
		kept := line[:min(max(n, 0), len(line))]
		wantSteps(t, []step{{some(), api.Happening{Kind: api.HTear, Client: 2, N: n}, but(down(2, kept))}})
	}
	first := but(writing(0, 3, ring, 59, 0))
	wantSteps(t, []step{
		{some(), api.Happening{Kind: api.HTear, Client: 2, N: math.MinInt}, but(down(2, ""))},
		{some(), api.Happening{Kind: api.HTear, Client: 2, N: math.MaxInt}, but(down(2, line))},
		{first, api.Happening{Kind: api.HTear, N: 99, Job: 9, Epoch: 9, E: far}, but(writing(0, 3, ring, 59, 0), down(0, "59: ring 2 10 1\n"))},
		{but(down(0, ""), down(1, "x")), api.Happening{Kind: api.HTear, Client: 2, N: 3}, but(down(0, ""), down(1, "x"), down(2, "4: "))},
	})
	for _, x := range links() {
		got, wrong := Do(but(x.from), api.Happening{Kind: api.HTear, N: 99})
		if there := alike(but(x.from, x.node), but(x.from)); there && (wrong != api.ErrTwice || !isZero(got)) || !there && wrong != api.OK {
			t.Errorf("Do(%v): %v, %d", but(x.from), got, wrong)
		}
	}
}

// HLink, HDeaf and HTear: the same is wrong with each.
func TestWritesAreRefused(t *testing.T) {
	for _, kind := range []int{api.HLink, api.HDeaf, api.HTear} {
		of := func(who int) api.Happening { return api.Happening{Kind: kind, Client: who, N: 99} }
		wantRefusals(t, []refusal{
			{some(), of(-1), api.ErrWho},
			{some(), of(3), api.ErrWho},
			{some(), of(math.MinInt), api.ErrWho},
			{some(), of(math.MaxInt), api.ErrWho},
			{some(), of(0), api.ErrLate},
			{some(), of(1), api.ErrLate},
			{but(down(2, "")), of(2), api.ErrLate},
			{but(writing(0, 3, put, 9, 0), down(0, "")), of(0), api.ErrLate},
			{but(writing(0, 2, junk, 7, 1), down(1, "")), of(0), api.ErrLate},
			// Both who is of an elder epoch and who is of a later one is refused, even where it stands.
			{but(writing(0, 2, put, 9, 0)), of(0), api.ErrOld},
			{but(writing(0, 4, put, 9, 0)), of(0), api.ErrOld},
			{but(writing(0, 2, put, 0, 0)), of(0), api.ErrOld},
			{but(writing(0, 1, ring, 1, 1)), of(0), api.ErrOld},
			{but(sealed(2, 2, "seal 2\n")), of(2), api.ErrOld},

			{but(writing(0, 2, put, 9, 0), down(0, "")), of(0), api.ErrLate},
		})
	}
}

// Of a place where something stands, HTear says that it is of an elder epoch first.
func TestTearSaysFirstWhatLinkSays(t *testing.T) {
	for _, link := range []int{0, 1, 2} {
		w := but(writing(0, 1, put, 0, link))
		for k := range 3 {
			w.C[0].Epoch = k + 1
			want := api.ErrOld
			if w.C[0].Epoch == w.N[link].U.Epoch {
				want = api.ErrTwice
			}
			wantRefusals(t, []refusal{{w, api.Happening{Kind: api.HTear, N: 3}, want}})
		}
	}
}

// A world's disks never come to these ends, since a unit has fewer places and epochs; but a write must stop there.
func TestWriteAndTearKnowTheEnds(t *testing.T) {
	seal, blot := api.Rec{Kind: api.RSeal, Epoch: 4}, api.Rec{Kind: api.RWrite, At: 1}
	full := node(1, at{1: drop}, strings.Repeat("seal 1\n", 160))
	wide := node(1, at{1: drop}, "")
	wide.D.Wait = bytes.Repeat([]byte("x"), 29995)
	for _, x := range []struct {
		n    api.Node
		r    api.Rec
		want api.Errno
	}{
		{full, seal, api.ErrMany},
		{wide, seal, api.ErrMany},
		{full, blot, api.ErrTwice},
		{wide, blot, api.ErrTwice},
		{wide, api.Rec{}, api.ErrForm},
	} {
		n := x.n
		if got := write(&n, x.r); got != x.want || fmt.Sprint(n) != fmt.Sprint(x.n) {
			t.Errorf("write(%v, %v): %d, %v, want %d", x.n, x.r, got, n, x.want)
		}
	}
	if n := wide; tear(&n, seal, 3) != api.ErrMany || fmt.Sprint(n) != fmt.Sprint(wide) {
		t.Errorf("tear(%v)", wide)
	}
	if n := full; tear(&n, seal, 3) != api.OK || n.Up || string(n.D.Wait) != "sea" {
		t.Errorf("tear: %v", n)
	}
}

func TestRun(t *testing.T) {
	l := []api.Happening{
		{Kind: api.HLink, Client: 2}, {Kind: api.HPlay, Client: 1}, {Kind: api.HPlay, Client: 1}, {Kind: api.HTick, N: 6},
		{}, {Kind: api.HPlace, Client: 1}, {Kind: api.HCrash, N: 2}, {Kind: api.HPlay, Client: 1},
	}
	plays := func(w *api.World) { w.C[1].Played, w.C[1].B = 1, played() }
	want := but(holds(2, 4, drop, "4: drop 5\n"), resting(2), plays, timeAt(20), writing(1, 2, drop, 8, 0), tipAt(9), down(2, ""))
	got, said, wrong := Run(some(), l)
	if !alike(got, want) || wrong != api.OK {
		t.Errorf("Run: %v, %d, want %v", got, wrong, want)
	}
	if !slices.Equal(said, []api.Errno{api.OK, api.OK, api.ErrLate, api.OK, api.ErrForm, api.OK, api.OK, api.ErrLate}) {
		t.Errorf("Run says %v", said)
	}
	for _, l := range [][]api.Happening{nil, {}} {
		if got, said, wrong := Run(some(), l); !alike(got, some()) || len(said) != 0 || wrong != api.OK {
			t.Errorf("Run of nothing: %v, %v, %d", got, said, wrong)
		}
	}
}

func TestRunKnowsHowMany(t *testing.T) {
	l := slices.Repeat([]api.Happening{{Kind: api.HTick, N: 1}}, 151)
	if got, said, wrong := Run(some(), l[:150]); !alike(got, but(timeAt(164))) || !slices.Equal(said, make([]api.Errno, 150)) || wrong != api.OK {
		t.Errorf("Run of 150: %v, %v, %d", got, said, wrong)
	}
	if got, said, wrong := Run(some(), l); !isZero(got) || said != nil || wrong != api.ErrMany {
		t.Errorf("Run of 151: %v, %v, %d", got, said, wrong)
	}
}
