package story

import (
	"maps"
	"math/rand"
	"slices"
	"testing"

	"carillon/api"
	"carillon/world"
)

// reckoned: the book that entries make, worked out here once more.
func reckoned(l []api.Entry) api.Book {
	jobs := map[int]api.Job{}
	var b api.Book
	for _, e := range l {
		j, there := jobs[e.Job]
		switch {
		case e.Kind == api.Put && !there:
			jobs[e.Job] = api.Job{ID: e.Job, Every: e.Every, Next: e.Time}
		case e.Kind == api.Drop:
			delete(jobs, e.Job)
		case e.Kind == api.Ring && there && j.Next == e.Time:
			b.Rung = append(b.Rung, api.Rung{Job: e.Job, Time: e.Time, Client: e.Client})
			j.Next += j.Every
			jobs[e.Job] = j
		}
	}
	for _, id := range slices.Sorted(maps.Keys(jobs)) {
		b.Jobs = append(b.Jobs, jobs[id])
	}
	return b
}

// openPlaces: those at which a place of the first unit, there or behind, is written, and the last unit has nothing.
func openPlaces(w api.World) []int {
	var l []int
	for at := range 60 {
		behind := slices.ContainsFunc(w.N[0].U.Cells[at:], func(e api.Entry) bool { return e != open })
		if behind && w.N[2].U.Cells[at] == open {
			l = append(l, at)
		}
	}
	return l
}

// room: how many places nobody has written yet.
func room(w api.World) int {
	n := 0
	for at := 59; at >= 0 && w.N[0].U.Cells[at] == open; at-- {
		n++
	}
	return n
}

// owed: how often jobs are to be rung up to a time.
func owed(b api.Book, time int) int {
	n := 0
	for _, j := range b.Jobs {
		for at := j.Next; at <= time; at += j.Every {
			n++
		}
	}
	return n
}

// wantPromises: what holds whenever a happening makes one world of another one.
func wantPromises(t *testing.T, w api.World, x api.Happening, after api.World) {
	t.Helper()
	before, wrong := Log(w)
	log, wrongAfter := Log(after)
	if wrong != api.OK || wrongAfter != api.OK || len(log) < len(before) || !slices.Equal(log[:len(before)], before) {
		t.Fatalf("%v of %s: the log was %v, and is %v", x, brief(w), before, log)
	}
	for _, c := range after.C {
		if c.Played > len(log) || !alike(c.B, reckoned(log[:c.Played])) {
			t.Fatalf("%v of %s: %v, of which a book isn't what the log makes", x, brief(w), c)
		}
	}
	b, wrong := Book(after)
	if wrong != api.OK || !alike(b, reckoned(log)) {
		t.Fatalf("%v of %s: Book: %v, %d, want what %v makes", x, brief(w), b, wrong, log)
	}
	wantInTime(t, after, log, b)
	if holes, wrong := Holes(after); wrong != api.OK || !slices.Equal(holes, openPlaces(after)) {
		t.Fatalf("%v of %s: Holes: %v, %d, want %v", x, brief(w), holes, wrong, openPlaces(after))
	}
}

// wantInTime: nothing is rung ahead of its time, nor twice while it is the same job.
func wantInTime(t *testing.T, w api.World, log []api.Entry, b api.Book) {
	t.Helper()
	for _, e := range w.N[0].U.Cells {
		if e.Kind == api.Ring && e.Time > w.Time {
			t.Fatalf("%s: %v is ahead of its time", brief(w), e)
		}
	}
	for _, r := range b.Rung {
		times, anew := 0, 0
		for _, x := range b.Rung {
			if x.Job == r.Job && x.Time == r.Time {
				times++
			}
		}
		for _, e := range log {
			if e.Kind == api.Drop && e.Job == r.Job {
				anew++
			}
		}
		if times > 1+anew {
			t.Fatalf("%s: %v was rung %d times", brief(w), r, times)
		}
	}
}

// goer: one client that goes on in a world.
type goer struct {
	t   *testing.T
	w   api.World
	who int
}

func (g *goer) me() api.Client { return g.w.C[g.who] }

func (g *goer) do(x api.Happening) {
	g.t.Helper()
	x.Client = g.who
	after, wrong := world.Do(g.w, x)
	if wrong != api.OK {
		g.t.Fatalf("%v of %s: %d", x, brief(g.w), wrong)
	}
	wantPromises(g.t, g.w, x, after)
	g.w = after
}

// unite: all units are up, of one epoch, and so is the client.
func (g *goer) unite() {
	highest := 0
	for k, n := range g.w.N {
		if !n.Up {
			g.do(api.Happening{Kind: api.HBoot, N: k})
		}
		highest = max(highest, g.w.N[k].U.Epoch)
	}
	for k := range g.w.N {
		if g.w.N[k].U.Epoch < highest {
			g.do(api.Happening{Kind: api.HSeal, N: k, Epoch: highest})
		}
	}
	g.learn()
}

func (g *goer) learn() {
	if g.me().Epoch < g.w.N[0].U.Epoch {
		g.do(api.Happening{Kind: api.HLearn})
	}
}

// rest: it ends what it does, or forgets it where there is no room.
func (g *goer) rest() {
	for range 8 {
		switch {
		case g.me().Doing == api.Rests:
			return
		case g.me().Doing == api.Writes:
			g.do(api.Happening{Kind: api.HLink})
		case room(g.w) > 0:
			g.do(api.Happening{Kind: api.HTip, N: 60 - room(g.w)})
			g.do(api.Happening{Kind: api.HPlace})
		default:
			g.do(api.Happening{Kind: api.HForget})
			g.learn()
		}
	}
	g.t.Fatalf("%s: client %d comes to no rest", brief(g.w), g.who)
}

func (g *goer) fill() {
	holes, _ := Holes(g.w)
	for _, at := range holes {
		g.do(api.Happening{Kind: api.HFill, N: at})
		g.rest()
	}
}

func (g *goer) play() {
	log, _ := Log(g.w)
	for g.me().Played < len(log) {
		g.do(api.Happening{Kind: api.HPlay})
	}
}

// ringAll: one by one, while something is due and there is room.
func (g *goer) ringAll() {
	for room(g.w) > 0 {
		i := slices.IndexFunc(g.me().B.Jobs, func(j api.Job) bool { return j.Next <= g.w.Time })
		if i < 0 {
			return
		}
		g.do(api.Happening{Kind: api.HRing, Job: g.me().B.Jobs[i].ID})
		g.rest()
		g.play()
	}
}

// wantGoesOn: where all are up, and one goes on, all holes are filled, and all is rung that is due and for which there is room. It tells how often it rang.
func wantGoesOn(t *testing.T, w api.World, who int) int {
	t.Helper()
	g := &goer{t, w, who}
	g.unite()
	g.rest()
	g.fill()
	if holes := openPlaces(g.w); len(holes) > 0 {
		t.Fatalf("%s: as client %d goes on, %v are open", brief(w), who, holes)
	}
	g.play()
	b, _ := Book(g.w)
	want := min(room(g.w), owed(b, g.w.Time))
	g.ringAll()
	after, _ := Book(g.w)
	if rung := len(after.Rung) - len(b.Rung); rung != want || !alike(g.me().B, after) {
		t.Fatalf("%s: as client %d goes on, it rings %d times, want %d", brief(w), who, rung, want)
	}
	if left := owed(after, g.w.Time); left > 0 && room(g.w) > 0 {
		t.Fatalf("%s: as client %d goes on, it is to ring %d times more", brief(w), who, left)
	}
	return want
}

// look: all of a world in which nothing is written behind place 3; a book is what was played.
type look struct {
	tip, time int
	units     [3]struct {
		epoch int
		cells [4]api.Entry
		up    bool
		wait  string
	}
	clients [3]struct {
		epoch, doing     int
		e                api.Entry
		at, link, played int
	}
}

func lookOf(w api.World) look {
	l := look{tip: w.Tip, time: w.Time}
	for k, n := range w.N {
		u := &l.units[k]
		u.epoch, u.up, u.wait = n.U.Epoch, n.Up, string(n.D.Wait)
		copy(u.cells[:], n.U.Cells)
	}
	for i, x := range w.C {
		c := &l.clients[i]
		c.epoch, c.doing, c.e, c.at, c.link, c.played = x.Epoch, x.Doing, x.E, x.At, x.Link, x.Played
	}
	return l
}

// begun: a world where job 1 is due at 0, and clients 0 and 1 know it.
func begun(t *testing.T) api.World {
	t.Helper()
	bell := api.Entry{Kind: api.Put, Job: 1, Every: 100}
	w, said, wrong := world.Run(world.New(), slices.Concat(
		[]api.Happening{{Kind: api.HWant, E: bell}},
		by(0, api.HPlace, api.HLink, api.HLink, api.HLink, api.HPlay),
		by(1, api.HPlay)))
	if wrong != api.OK || !slices.Equal(said, make([]api.Errno, 7)) {
		t.Fatalf("Run: %v, %d", said, wrong)
	}
	return w
}

// wantWalk goes through all worlds that happenings can make of w while the tip isn't above end, nor the time above 100, and lets a client go on from each. There are to be at least so many of them, and so many in whose log one time is rung twice.
func wantWalk(t *testing.T, w api.World, end int, l []api.Happening, worlds, twice int) {
	t.Helper()
	seen, found := map[look]bool{}, 0
	for work := []api.World{w}; len(work) > 0; {
		w := work[len(work)-1]
		work = work[:len(work)-1]
		if seen[lookOf(w)] || w.Tip > end || w.Time > 100 {
			continue
		}
		seen[lookOf(w)] = true
		wantGoesOn(t, w, len(seen)%3)
		if isRungTwice(w) {
			found++
		}
		for _, x := range l {
			after, wrong := world.Do(w, x)
			if wrong == api.OK {
				wantPromises(t, w, x, after)
				work = append(work, after)
			}
		}
	}
	if len(seen) < worlds || found < twice {
		t.Errorf("%d worlds, and %d where one time is rung twice, want at least %d and %d", len(seen), found, worlds, twice)
	}
}

// isRungTwice tells whether the log has rings that its book doesn't count.
func isRungTwice(w api.World) bool {
	log, _ := Log(w)
	b, _ := Book(w)
	rings := slices.DeleteFunc(log, func(e api.Entry) bool { return e.Kind != api.Ring })
	return len(rings) > len(b.Rung)
}

// by: happenings of these kinds by a client, of job 1, place 1 or unit 1 where they need one.
func by(who int, kinds ...int) []api.Happening {
	var l []api.Happening
	for _, kind := range kinds {
		l = append(l, api.Happening{Kind: kind, Client: who, Job: 1, N: 1})
	}
	return l
}

// at: the same happening at each unit.
func at(kind, epoch int) []api.Happening {
	var l []api.Happening
	for k := range 3 {
		l = append(l, api.Happening{Kind: kind, N: k, Epoch: epoch})
	}
	return l
}

// Two clients ring what is due, each at a place of its own, and one doesn't always hear of it.
func TestWhoeverRings(t *testing.T) {
	wantWalk(t, begun(t), 3, slices.Concat(
		by(0, api.HRing, api.HPlace, api.HLink, api.HDeaf, api.HPlay),
		by(1, api.HRing, api.HPlace, api.HLink, api.HPlay)), 400, 100)
}

// One client rings and forgets that it did, while another one fills a place.
func TestWhoeverForgets(t *testing.T) {
	wantWalk(t, begun(t), 3, slices.Concat(
		by(0, api.HRing, api.HPlace, api.HLink, api.HPlay, api.HForget),
		by(2, api.HFill, api.HLink)), 500, 20)
}

// One client rings and another one fills the place, and units lose their power, in the midst of a record, too.
func TestWhateverIsTorn(t *testing.T) {
	wantWalk(t, begun(t), 2, slices.Concat(
		by(0, api.HRing, api.HPlace, api.HLink, api.HDeaf, api.HPlay),
		by(2, api.HFill, api.HLink),
		[]api.Happening{{Kind: api.HTear, N: 5}, {Kind: api.HTear, N: 99}, {Kind: api.HTear, Client: 2, N: 99}},
		at(api.HCrash, 0), at(api.HBoot, 0)), 1000, 0)
}

// Units are sealed one by one while a client rings, and it learns of it, or not.
func TestWhateverIsSealed(t *testing.T) {
	wantWalk(t, begun(t), 2, slices.Concat(
		by(0, api.HRing, api.HPlace, api.HLink, api.HDeaf, api.HPlay, api.HForget),
		at(api.HSeal, 2), at(api.HLearn, 0)), 300, 0)
}

// One client rings as it is 99, and then 100: what is due at 100 is rung no sooner.
func TestWhateverTheTime(t *testing.T) {
	w := did(t, begun(t), []api.Happening{{Kind: api.HTick, N: 99}})
	wantWalk(t, w, 3, slices.Concat(
		by(0, api.HRing, api.HPlace, api.HLink, api.HPlay, api.HForget),
		[]api.Happening{{Kind: api.HTick, N: 1}}), 200, 10)
}

// The tip gives the same place to two clients.
func TestWhereTheTipGoesBack(t *testing.T) {
	wantWalk(t, begun(t), 2, slices.Concat(
		by(0, api.HRing, api.HPlace, api.HLink, api.HPlay),
		by(1, api.HRing, api.HPlace, api.HLink, api.HPlay),
		by(0, api.HTip)), 250, 0)
}

// did: a world, once all of this came to pass.
func did(t *testing.T, w api.World, l []api.Happening) api.World {
	t.Helper()
	for _, x := range l {
		after, wrong := world.Do(w, x)
		if wrong != api.OK {
			t.Fatalf("%v of %s: %d", x, brief(w), wrong)
		}
		wantPromises(t, w, x, after)
		w = after
	}
	return w
}

func TestOneGoesOnWhileThereIsRoom(t *testing.T) {
	wants := func(e api.Entry) []api.Happening {
		return []api.Happening{{Kind: api.HWant, Client: 2, E: e}, {Kind: api.HPlace, Client: 2}, {Kind: api.HLink, Client: 2}}
	}
	tip := func(n int) []api.Happening { return []api.Happening{{Kind: api.HTip, N: n}} }
	tick := func(n int) []api.Happening { return []api.Happening{{Kind: api.HTick, N: n}} }
	each := wants(api.Entry{Kind: api.Put, Job: 4, Every: 1})
	for i, x := range []struct {
		l    []api.Happening
		want int
	}{
		{nil, 1},
		{tick(99), 1},
		{tick(100), 2},
		{tick(1000), 11},
		{tick(api.MaxTime), 59},
		// All ahead of a place that was written are holes, and only what is behind it is room.
		{slices.Concat(tip(57), wants(drop), tick(1000)), 2},
		{slices.Concat(tip(58), wants(drop), tick(1000)), 1},
		{slices.Concat(tip(59), wants(drop), tick(1000)), 0},
		{slices.Concat(tip(60), tick(100)), 2},
		// Two jobs, both from 0 on, and one of them is due at each time.
		{each, 2},
		{slices.Concat(each, tick(56)), 58},
		{slices.Concat(each, tick(57)), 58},
		{slices.Concat(each, tick(500)), 58},
		{slices.Concat(each, at(api.HSeal, 20), at(api.HCrash, 0), tick(3)), 5},
		{slices.Concat(wants(low), tick(api.MaxTime)), 58},
	} {
		w := did(t, begun(t), x.l)
		if got := wantGoesOn(t, w, i%3); got != x.want {
			t.Errorf("%s: client %d rings %d times, want %d", brief(w), i%3, got, x.want)
		}
	}
}

// The last time that may be is rung, and what is due behind it never is.
func TestTheLastTimeIsRung(t *testing.T) {
	w := did(t, world.New(), slices.Concat(
		[]api.Happening{{Kind: api.HWant, E: low}},
		by(0, api.HPlace, api.HLink),
		[]api.Happening{{Kind: api.HTick, N: api.MaxTime}}))
	if got := wantGoesOn(t, w, 1); got != 1 {
		t.Errorf("%s: it is rung %d times, want 1", brief(w), got)
	}
}

// random: a happening of any kind, whether it is wrong or not.
func random(r *rand.Rand) api.Happening {
	x := api.Happening{Kind: r.Intn(17), Client: r.Intn(5) - 1, N: r.Intn(14) - 1, Job: r.Intn(2), Epoch: r.Intn(9)}
	x.E = api.Entry{Kind: r.Intn(6) - 1, Job: r.Intn(7), Every: r.Intn(3), Time: r.Intn(4)}
	if r.Intn(2) == 0 {
		x.N = r.Intn(3)
	}
	return x
}

// useful: what brings one of the clients on.
func useful(r *rand.Rand, w api.World) api.Happening {
	who, unit := r.Intn(3), r.Intn(3)
	c := w.C[who]
	switch {
	case !w.N[unit].Up:
		return api.Happening{Kind: api.HBoot, N: unit}
	case c.Epoch < w.N[unit].U.Epoch:
		return api.Happening{Kind: api.HLearn, Client: who, N: unit}
	case c.Epoch > w.N[unit].U.Epoch:
		return api.Happening{Kind: api.HSeal, N: unit, Epoch: c.Epoch}
	case c.Doing == api.Wants:
		return api.Happening{Kind: api.HPlace, Client: who}
	case c.Doing == api.Writes:
		kind := []int{api.HLink, api.HLink, api.HLink, api.HDeaf, api.HTear}[r.Intn(5)]
		return api.Happening{Kind: kind, Client: who, N: r.Intn(30)}
	}
	if log, _ := Log(w); c.Played < len(log) {
		return api.Happening{Kind: api.HPlay, Client: who}
	}
	if i := slices.IndexFunc(c.B.Jobs, func(j api.Job) bool { return j.Next <= w.Time }); i >= 0 && r.Intn(4) > 0 {
		return api.Happening{Kind: api.HRing, Client: who, Job: c.B.Jobs[i].ID}
	}
	return []api.Happening{
		{Kind: api.HTick, N: 1 + r.Intn(9)},
		{Kind: api.HFill, Client: who, N: c.Played},
		{Kind: api.HRing, Client: who, Job: r.Intn(2)},
		{Kind: api.HWant, Client: who, E: api.Entry{Kind: api.Put, Job: r.Intn(2), Every: 7, Time: w.Time + r.Intn(5)}},
		{Kind: api.HWant, Client: who, E: api.Entry{Kind: api.Drop, Job: r.Intn(2)}},
	}[r.Intn(5)]
}

// Whatever comes to pass, and whoever goes on then.
func TestWhateverComesToPass(t *testing.T) {
	r := rand.New(rand.NewSource(12))
	rung, rungLate, twice, holed := 0, 0, 0, 0
	for n := range 60 {
		w := world.New()
		for range api.MaxScript {
			x := useful(r, w)
			if r.Intn(12) == 0 {
				x = random(r)
			}
			after, wrong := world.Do(w, x)
			if wrong != api.OK {
				continue
			}
			wantPromises(t, w, x, after)
			w = after
		}
		b, _ := Book(w)
		rung += len(b.Rung)
		if isRungTwice(w) {
			twice++
		}
		if holes, _ := Holes(w); len(holes) > 0 {
			holed++
		}
		rungLate += wantGoesOn(t, w, n%3)
	}
	// Else there would be little to see.
	if rung < 50 || rungLate < 50 || twice < 30 || holed < 30 {
		t.Errorf("%d rung, and %d as one went on; %d worlds where one time is rung twice, %d with holes", rung, rungLate, twice, holed)
	}
}
