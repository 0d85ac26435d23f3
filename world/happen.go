package world

import (
	"carillon/api"
	"carillon/chain"
	"carillon/client"
	"carillon/disk"
	"carillon/unit"
)

// happen changes a world that passes Check by a happening, or not at all if something is wrong with that.
func happen(w *api.World, x api.Happening) api.Errno {
	switch x.Kind {
	case api.HTip:
		return tip(w, x.N)
	case api.HTick:
		return tick(w, x.N)
	case api.HSeal, api.HLearn, api.HCrash, api.HBoot:
		return atNode(w, x)
	case api.HLink, api.HDeaf, api.HTear:
		return atLink(w, x)
	case api.HWant, api.HRing, api.HPlace, api.HFill, api.HPlay, api.HForget:
		return atClient(w, x)
	}
	return api.ErrForm
}

func tip(w *api.World, at int) api.Errno {
	if at < 0 || at > api.MaxCells {
		return api.ErrRange
	}
	w.Tip = at
	return api.OK
}

func tick(w *api.World, n int) api.Errno {
	if n < 1 || n > api.MaxTime-w.Time {
		return api.ErrRange
	}
	w.Time += n
	return api.OK
}

func atNode(w *api.World, x api.Happening) api.Errno {
	if x.N < 0 || x.N >= len(w.N) {
		return api.ErrWho
	}
	n := &w.N[x.N]
	if x.Kind == api.HBoot {
		return boot(n)
	}
	if !n.Up {
		return api.ErrLate
	}
	switch x.Kind {
	case api.HSeal:
		return write(n, api.Rec{Kind: api.RSeal, Epoch: x.Epoch})
	case api.HLearn:
		return learn(w, x.Client, n.U.Epoch)
	}
	// Nothing waits where a unit is up, so its disk stays as it is.
	n.Up = false
	return api.OK
}

func boot(n *api.Node) api.Errno {
	if n.Up {
		return api.ErrLate
	}
	d, u, wrong := recovered(n.D)
	if wrong != api.OK {
		return wrong
	}
	*n = api.Node{U: u, D: d, Up: true}
	return api.OK
}

func learn(w *api.World, who, epoch int) api.Errno {
	if !isClient(w, who) {
		return api.ErrWho
	}
	c, wrong := client.Learn(w.C[who], epoch)
	if wrong != api.OK {
		return wrong
	}
	w.C[who] = c
	return api.OK
}

// write: a record is safe as soon as the unit has it.
func write(n *api.Node, r api.Rec) api.Errno {
	u, wrong := unit.Next(n.U, r)
	if wrong != api.OK {
		return wrong
	}
	d, wrong := disk.Put(n.D, r)
	if wrong != api.OK {
		return wrong
	}
	d, wrong = disk.Sync(d)
	if wrong != api.OK {
		return wrong
	}
	n.U, n.D = u, d
	return api.OK
}

func atClient(w *api.World, x api.Happening) api.Errno {
	if !isClient(w, x.Client) {
		return api.ErrWho
	}
	c, wrong := does(w, w.C[x.Client], x)
	if wrong != api.OK {
		return wrong
	}
	w.C[x.Client] = c
	if x.Kind == api.HPlace {
		w.Tip++
	}
	return api.OK
}

// does: what a happening makes of the client c.
func does(w *api.World, c api.Client, x api.Happening) (api.Client, api.Errno) {
	switch x.Kind {
	case api.HWant:
		return want(c, x.E)
	case api.HRing:
		return client.Ring(c, x.Client, x.Job, w.Time)
	case api.HPlace:
		return place(c, w.Tip)
	case api.HFill:
		return client.Fill(c, x.N)
	case api.HPlay:
		return play(c, w.N)
	}
	return client.New(), api.OK
}

// want: what is to be rung only the client's book tells, which HRing asks.
func want(c api.Client, e api.Entry) (api.Client, api.Errno) {
	if e.Kind == api.Ring {
		return api.Client{}, api.ErrForm
	}
	return client.Want(c, e)
}

func place(c api.Client, at int) (api.Client, api.Errno) {
	if at == api.MaxCells {
		return api.Client{}, api.ErrMany
	}
	return client.Place(c, at)
}

func play(c api.Client, l []api.Node) (api.Client, api.Errno) {
	if c.Played == api.MaxCells {
		return api.Client{}, api.ErrMany
	}
	if !l[len(l)-1].Up {
		return api.Client{}, api.ErrLate
	}
	e, wrong := chain.Read(units(l), c.Played)
	if wrong != api.OK {
		return api.Client{}, wrong
	}
	return client.Play(c, e)
}

// atLink: a client writes at its next unit, whatever it hears of it.
func atLink(w *api.World, x api.Happening) api.Errno {
	if !isClient(w, x.Client) {
		return api.ErrWho
	}
	c := &w.C[x.Client]
	if c.Doing != api.Writes || !w.N[c.Link].Up {
		return api.ErrLate
	}
	n := &w.N[c.Link]
	r, stands, wrong := chain.Link(units(w.N), c.Link, c.At, c.E, c.Epoch)
	if wrong != api.OK {
		return wrong
	}
	switch x.Kind {
	case api.HTear:
		return tear(n, r, x.N)
	case api.HDeaf:
		return writeAny(n, r)
	}
	return hear(c, n, r, stands)
}

// hear: the node is changed only where the client is, too.
func hear(c *api.Client, n *api.Node, r api.Rec, stands api.Entry) api.Errno {
	written := *n
	if wrong := writeAny(&written, r); wrong != api.OK {
		return wrong
	}
	heard, wrong := client.Heard(*c, stands)
	if wrong != api.OK {
		return wrong
	}
	*n, *c = written, heard
	return api.OK
}

// writeAny: where something stands already there is no record, and nothing to write.
func writeAny(n *api.Node, r api.Rec) api.Errno {
	if isNone(r) {
		return api.OK
	}
	return write(n, r)
}

// tear: the power goes ahead of Sync, so the unit stays without the record until it boots.
func tear(n *api.Node, r api.Rec, kept int) api.Errno {
	if isNone(r) {
		return api.ErrTwice
	}
	d, wrong := disk.Put(n.D, r)
	if wrong != api.OK {
		return wrong
	}
	d, wrong = disk.Crash(d, min(max(kept, 0), len(d.Wait)))
	if wrong != api.OK {
		return wrong
	}
	n.D, n.Up = d, false
	return api.OK
}

// units: for chain to read alone.
func units(l []api.Node) []api.Unit {
	chained := make([]api.Unit, len(l))
	for k, n := range l {
		chained[k] = n.U
	}
	return chained
}

func isNone(r api.Rec) bool { return r == api.Rec{} }

func isClient(w *api.World, who int) bool { return who >= 0 && who < len(w.C) }
