package world

import (
	"fmt"
	"testing"

	"carillon/api"
)

// list: a list of a world, with the room behind it.
type list struct {
	name  string
	text  func() string
	spoil func()
}

func listOf[T any](name string, l []T, bad T) list {
	whole := l[:cap(l)]
	text := func() string { return fmt.Sprint(whole) }
	return list{name, text, func() {
		for i := range whole {
			whole[i] = bad
		}
	}}
}

// lists: all lists of a world; of those of nodes and clients only what isn't a list itself.
func lists(w api.World) []list {
	nodes, clients := w.N[:cap(w.N)], w.C[:cap(w.C)]
	l := []list{
		{"N", func() string {
			text := ""
			for _, n := range nodes {
				text += fmt.Sprintln(n.U.Epoch, n.Up, len(n.U.Cells), len(n.D.Safe), len(n.D.Wait))
			}
			return text
		}, func() {
			for k := range nodes {
				nodes[k] = api.Node{U: api.Unit{Epoch: -5}}
			}
		}},
		{"C", func() string {
			text := ""
			for _, c := range clients {
				text += fmt.Sprintln(c.Epoch, c.Doing, c.E, c.At, c.Link, c.Played, len(c.B.Jobs), len(c.B.Rung))
			}
			return text
		}, func() {
			for i := range clients {
				clients[i] = api.Client{Epoch: -5}
			}
		}},
	}
	for k, n := range w.N {
		at := fmt.Sprint("N ", k, " ")
		l = append(l, listOf(at+"Cells", n.U.Cells, api.Entry{Kind: -5}), listOf(at+"Safe", n.D.Safe, '!'), listOf(at+"Wait", n.D.Wait, '!'))
	}
	for i, c := range w.C {
		at := fmt.Sprint("C ", i, " ")
		l = append(l, listOf(at+"Jobs", c.B.Jobs, api.Job{ID: -5}), listOf(at+"Rung", c.B.Rung, api.Rung{Job: -5}))
	}
	return l
}

func texts(l []list) []string {
	all := make([]string, len(l))
	for i, x := range l {
		all[i] = x.text()
	}
	return all
}

// withRoom: the same list, with other things in the room behind it.
func withRoom[T any](l []T, other T) []T {
	return append(append(make([]T, 0, len(l)+2), l...), other, other)[:len(l)]
}

// roomy: w, with other things in the room behind all of its lists.
func roomy(w api.World) api.World {
	w.N, w.C = withRoom(w.N, api.Node{U: api.Unit{Epoch: 77}}), withRoom(w.C, api.Client{Epoch: 77})
	for k := range w.N {
		n := &w.N[k]
		n.U.Cells, n.D.Safe, n.D.Wait = withRoom(n.U.Cells, api.Entry{Kind: 77}), withRoom(n.D.Safe, '?'), withRoom(n.D.Wait, '?')
	}
	for i := range w.C {
		b := &w.C[i].B
		b.Jobs, b.Rung = withRoom(b.Jobs, api.Job{ID: 77}), withRoom(b.Rung, api.Rung{Job: 77})
	}
	return w
}

// deed: a happening that has no error.
type deed struct {
	w api.World
	x api.Happening
}

func deeds() []deed {
	torn := but(down(2, "1: ring 2 10 1\n4: dr"))
	l := []deed{
		{some(), api.Happening{Kind: api.HTip, N: 3}},
		{some(), api.Happening{Kind: api.HTick, N: 3}},
		{some(), api.Happening{Kind: api.HSeal, N: 2, Epoch: 3}},
		{some(), api.Happening{Kind: api.HLearn, N: 0, Client: 1}},
		{some(), api.Happening{Kind: api.HCrash, N: 1}},
		{torn, api.Happening{Kind: api.HBoot, N: 2}},
		{torn, api.Happening{Kind: api.HCrash, N: 1}},
		{some(), api.Happening{Kind: api.HWant, E: put}},
		{some(), api.Happening{Kind: api.HRing, Job: 2}},
		{some(), api.Happening{Kind: api.HPlace, Client: 1}},
		{some(), api.Happening{Kind: api.HFill, N: 7}},
		{some(), api.Happening{Kind: api.HPlay, Client: 1}},
		{some(), api.Happening{Kind: api.HForget, Client: 0}},
	}
	for _, kind := range []int{api.HLink, api.HDeaf, api.HTear} {
		l = append(l, deed{some(), api.Happening{Kind: kind, Client: 2, N: 4}})
		for _, x := range links() {
			if kind != api.HTear {
				l = append(l, deed{but(x.from), api.Happening{Kind: kind}})
			}
		}
	}
	return l
}

// wantApart: no list of the answer shares memory with another one, nor with one of what was handed in, which must be as it was.
func wantApart(t *testing.T, name string, given []list, was []string, answer []list) {
	t.Helper()
	for i, text := range texts(given) {
		if text != was[i] {
			t.Errorf("%s made %s of %s of what was handed in, which was %s", name, text, given[i].name, was[i])
		}
	}
	all := append(answer, given...)
	for i, x := range answer {
		before := texts(all)
		x.spoil()
		for j, text := range texts(all) {
			if j != i && text != before[j] {
				t.Errorf("%s: list %d (%s) of its answer shares memory with list %d (%s)", name, i, x.name, j, all[j].name)
			}
		}
	}
}

func TestDoOnlyReads(t *testing.T) {
	for _, x := range deeds() {
		w := roomy(x.w)
		given := lists(w)
		was := texts(given)
		got, wrong := Do(w, x.x)
		if wrong != api.OK {
			t.Fatalf("Do(%v, %v): %d", w, x.x, wrong)
		}
		wantApart(t, fmt.Sprint("Do ", x.x), given, was, lists(got))
	}
}

func TestDoWithErrorOnlyReads(t *testing.T) {
	for kind := range 17 {
		for _, x := range []api.Happening{{Kind: kind, Client: 9, N: -1}, {Kind: kind, Client: 0, N: 2, E: far}, {Kind: kind, Client: 2, N: 2}} {
			w := roomy(some())
			given := lists(w)
			was := texts(given)
			Do(w, x)
			wantApart(t, fmt.Sprint("Do ", x), given, was, nil)
		}
	}
}

func TestRunOnlyReads(t *testing.T) {
	tick := api.Happening{Kind: api.HTick, N: 1}
	for _, x := range deeds() {
		for _, l := range [][]api.Happening{nil, {x.x}, {tick, {}, x.x, tick}} {
			w, script := roomy(x.w), withRoom(l, api.Happening{Kind: 77})
			given := append(lists(w), listOf("script", script, api.Happening{}))
			was := texts(given)
			got, said, wrong := Run(w, script)
			if wrong != api.OK {
				t.Fatalf("Run(%v, %v): %d", w, l, wrong)
			}
			wantApart(t, fmt.Sprint("Run ", l), given, was, append(lists(got), listOf("errors", said, -5)))
		}
	}
}

func TestCheckAndSameOnlyRead(t *testing.T) {
	w := roomy(but(down(2, "1: ring 2 10 1\n4: dr")))
	given := lists(w)
	was := texts(given)
	if Check(w) != api.OK || !Same(w, w) || Same(w, New()) {
		t.Errorf("Check or Same of %v", w)
	}
	wantApart(t, "Check and Same", given, was, nil)
}

// Lists that have nothing in them have room behind them, too, and may be nil or empty.
func TestEmptyListsAreNotShared(t *testing.T) {
	w := New()
	for k := range w.N {
		w.N[k].D = api.Disk{Safe: make([]byte, 0, 9), Wait: make([]byte, 0, 9)}
	}
	for i := range w.C {
		w.C[i].B = api.Book{Jobs: make([]api.Job, 0, 9), Rung: make([]api.Rung, 0, 9)}
	}
	for _, x := range []api.Happening{{Kind: api.HTick, N: 1}, {Kind: api.HWant, E: put}, {Kind: api.HFill}, {Kind: api.HCrash}, {Kind: api.HSeal, Epoch: 2}, {Kind: api.HForget}} {
		given := lists(w)
		was := texts(given)
		got, wrong := Do(w, x)
		if of, fresh := Do(New(), x); wrong != fresh || !alike(got, of) {
			t.Errorf("Do(%v): %v, %d, want %v, %d", x, got, wrong, of, fresh)
		}
		wantApart(t, fmt.Sprint("Do ", x), given, was, lists(got))
	}
}
