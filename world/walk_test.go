package world

import (
	"bytes"
	"math/rand"
	"slices"
	"testing"

	"carillon/api"
	"carillon/book"
)

// look: all of a world in which nothing is written but at place 0, and nothing played but what makes one book.
type look struct {
	tip   int
	units [3]struct {
		epoch int
		e     api.Entry
		up    bool
		wait  string
	}
	clients [2]struct {
		epoch, doing int
		e            api.Entry
		at, link     int
		played       int
	}
}

func lookOf(w api.World) look {
	l := look{tip: w.Tip}
	for k, n := range w.N {
		u := &l.units[k]
		u.epoch, u.e, u.up, u.wait = n.U.Epoch, n.U.Cells[0], n.Up, string(n.D.Wait)
	}
	for i := range l.clients {
		c, x := &l.clients[i], w.C[i]
		c.epoch, c.doing, c.e, c.at, c.link, c.played = x.Epoch, x.Doing, x.E, x.At, x.Link, x.Played
	}
	return l
}

// walk tells how many worlds happenings can make of a new one, where the tip gives place 0 alone.
func walk(t *testing.T, l []api.Happening) int {
	t.Helper()
	seen := map[look]bool{}
	work := []api.World{New()}
	for len(work) > 0 {
		w := work[len(work)-1]
		work = work[:len(work)-1]
		if seen[lookOf(w)] || w.Tip > 1 {
			continue
		}
		seen[lookOf(w)] = true
		for _, x := range l {
			after, wrong := Do(w, x)
			if wrong != api.OK {
				if !isZero(after) {
					t.Fatalf("Do(%v, %v): %v, %d, want nothing", w, x, after, wrong)
				}
				continue
			}
			wantPromises(t, w, x, after)
			work = append(work, after)
		}
	}
	return len(seen)
}

// wantPromises: what holds whenever a happening makes one world of another one.
func wantPromises(t *testing.T, w api.World, x api.Happening, after api.World) {
	t.Helper()
	if wrong := Check(after); wrong != api.OK {
		t.Fatalf("Do(%v, %v): %v, of which Check says %d", w, x, after, wrong)
	}
	for k := range w.N {
		if !grows(w.N[k], after.N[k]) {
			t.Fatalf("Do(%v, %v): %v, where unit %d has lost something", w, x, after, k)
		}
	}
	for _, c := range after.C {
		if b, wrong := book.Replay(after.N[2].U.Cells[:c.Played]); wrong != api.OK || !book.Same(b, c.B) {
			t.Fatalf("Do(%v, %v): %v, where a book isn't what the log makes", w, x, after)
		}
	}
	if !alike(w, restored(w, x, after)) {
		t.Fatalf("Do(%v, %v): %v, which is more than it may change", w, x, after)
	}
}

// grows: what a unit had, and what was safe, is there.
func grows(n, after api.Node) bool {
	for at, e := range n.U.Cells {
		if e != (api.Entry{Kind: api.Blank}) && after.U.Cells[at] != e {
			return false
		}
	}
	return bytes.HasPrefix(after.D.Safe, n.D.Safe) && after.U.Epoch >= n.U.Epoch
}

// restored: after, but with all as it was in w that this happening may change.
func restored(w api.World, x api.Happening, after api.World) api.World {
	was := api.World{N: slices.Clone(after.N), Tip: after.Tip, C: slices.Clone(after.C), Time: after.Time}
	switch x.Kind {
	case api.HTip:
		was.Tip = w.Tip
	case api.HTick:
		was.Time = w.Time
	case api.HSeal, api.HCrash, api.HBoot:
		was.N[x.N] = w.N[x.N]
	case api.HLink, api.HDeaf, api.HTear:
		link := w.C[x.Client].Link
		was.N[link] = w.N[link]
	}
	switch x.Kind {
	case api.HPlace:
		was.Tip = w.Tip
		was.C[x.Client] = w.C[x.Client]
	case api.HWant, api.HRing, api.HLink, api.HFill, api.HPlay, api.HLearn, api.HForget:
		was.C[x.Client] = w.C[x.Client]
	}
	return was
}

// power: each unit may lose its power, and get it again.
func power() []api.Happening {
	var l []api.Happening
	for k := range 3 {
		l = append(l, api.Happening{Kind: api.HCrash, N: k}, api.Happening{Kind: api.HBoot, N: k})
	}
	return l
}

// One client writes an entry at place 0, plays it, and forgets; units lose their power at any time.
func TestWhateverOneClientDoes(t *testing.T) {
	l := append(power(),
		api.Happening{Kind: api.HTip}, api.Happening{Kind: api.HWant, E: put}, api.Happening{Kind: api.HPlace},
		api.Happening{Kind: api.HLink}, api.Happening{Kind: api.HDeaf},
		api.Happening{Kind: api.HTear}, api.Happening{Kind: api.HTear, N: 5}, api.Happening{Kind: api.HTear, N: 99},
		api.Happening{Kind: api.HPlay}, api.Happening{Kind: api.HForget})
	// If the first m units have it: unit m is up, or down with nothing, 5 bytes or the whole record; the others are up or down.
	// The client rests, wants, or writes at one of the units up to m; and once all have it, it has played it or not. The tip is 0 or 1.
	want := 2 * (4*4*(3+4+5) + 8*5*2)
	if got := walk(t, l); got != want {
		t.Errorf("%d worlds, want %d", got, want)
	}
}

// One client writes an entry at place 0 while another one fills it.
func TestWhateverTwoClientsDo(t *testing.T) {
	l := append(power(),
		api.Happening{Kind: api.HTip}, api.Happening{Kind: api.HWant, E: put}, api.Happening{Kind: api.HPlace},
		api.Happening{Kind: api.HFill, Client: 1})
	for who := range 2 {
		l = append(l,
			api.Happening{Kind: api.HLink, Client: who}, api.Happening{Kind: api.HDeaf, Client: who},
			api.Happening{Kind: api.HTear, Client: who, N: 99}, api.Happening{Kind: api.HForget, Client: who})
	}
	// No unit has anything: the first one is up, or down with nothing or with either record, and client 0 rests, wants or writes, client 1 rests or fills.
	nothing := 4 * 4 * 3 * 2
	// The entry stands at the first m units: as above, and client 1 may carry on the entry at any unit behind the first one up to m.
	entry := 4*3*(4*3+5*4) + 8*5*4
	// Junk stands there: client 0 may write at the first unit alone, client 1 at one of the units up to m.
	filled := 4*3*(3*3+3*4) + 8*3*4
	if got, want := walk(t, l), 2*(nothing+entry+filled); got != want {
		t.Errorf("%d worlds, want %d", got, want)
	}
}

// Units are sealed one by one while a client writes; who is of another epoch than the unit can't.
func TestWhateverIsSealed(t *testing.T) {
	l := []api.Happening{
		{Kind: api.HTip}, {Kind: api.HWant, E: put}, {Kind: api.HPlace},
		{Kind: api.HLink}, {Kind: api.HDeaf}, {Kind: api.HForget},
	}
	for k := range 3 {
		l = append(l, api.Happening{Kind: api.HSeal, N: k, Epoch: 2}, api.Happening{Kind: api.HLearn, N: k})
	}
	// Each unit is sealed or not, and the client is of epoch 2 only if one is; if the first m have the entry, it rests, wants, or writes at one up to m.
	want := 2 * (8 + 7) * (3 + 4 + 5 + 5)
	if got := walk(t, l); got != want {
		t.Errorf("%d worlds, want %d", got, want)
	}
}

// random: a happening of any kind, whether it is wrong or not.
func random(r *rand.Rand) api.Happening {
	x := api.Happening{Kind: r.Intn(17), Client: r.Intn(5) - 1, N: r.Intn(14) - 1, Job: r.Intn(2), Epoch: r.Intn(9)}
	x.E = api.Entry{Kind: r.Intn(6) - 1, Job: r.Intn(7), Every: r.Intn(3), Time: r.Intn(4)}
	if r.Intn(2) == 0 {
		x.N = r.Intn(3)
	}
	return x
}

// useful: what brings one of the clients on.
func useful(r *rand.Rand, w api.World) api.Happening {
	who, unit := r.Intn(3), r.Intn(3)
	c := w.C[who]
	switch {
	case !w.N[unit].Up:
		return api.Happening{Kind: api.HBoot, N: unit}
	case c.Epoch < w.N[unit].U.Epoch:
		return api.Happening{Kind: api.HLearn, Client: who, N: unit}
	case c.Epoch > w.N[unit].U.Epoch:
		return api.Happening{Kind: api.HSeal, N: unit, Epoch: c.Epoch}
	case c.Doing == api.Wants:
		return api.Happening{Kind: api.HPlace, Client: who}
	case c.Doing == api.Writes:
		return api.Happening{Kind: api.HLink, Client: who}
	}
	return []api.Happening{
		{Kind: api.HPlay, Client: who},
		{Kind: api.HPlay, Client: who},
		{Kind: api.HRing, Client: who, Job: 1 + r.Intn(2)},
		{Kind: api.HTick, N: 1 + r.Intn(9)},
		{Kind: api.HFill, Client: who, N: c.Played},
		{Kind: api.HWant, Client: who, E: api.Entry{Kind: api.Put, Job: 1 + r.Intn(2), Every: 7, Time: w.Time}},
	}[r.Intn(6)]
}

// Run is Do one after the other, whatever happens.
func TestRunIsDoOneByOne(t *testing.T) {
	r := rand.New(rand.NewSource(11))
	passed, refused, rung := 0, 0, 0
	for range 60 {
		l := make([]api.Happening, api.MaxScript)
		w, said := New(), make([]api.Errno, len(l))
		for i := range l {
			l[i] = useful(r, w)
			if r.Intn(8) == 0 {
				l[i] = random(r)
			}
			after, wrong := Do(w, l[i])
			if said[i] = wrong; wrong != api.OK {
				refused++
				continue
			}
			wantPromises(t, w, l[i], after)
			w = after
			passed++
		}
		for _, c := range w.C {
			rung += len(c.B.Rung)
		}
		got, errors, wrong := Run(New(), l)
		if !alike(got, w) || !slices.Equal(errors, said) || wrong != api.OK {
			t.Fatalf("Run of %v: %v, %v, %d, want %v, %v", l, got, errors, wrong, w, said)
		}
	}
	// Else there would be little to compare.
	if passed < 5000 || refused < 1000 || rung < 20 {
		t.Errorf("%d passed, %d were refused, %d times one was rung", passed, refused, rung)
	}
}
