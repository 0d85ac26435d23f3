package story

import (
	"fmt"
	"slices"
	"testing"

	"carillon/api"
	"carillon/world"
)

// withRoom: the same list, with other things in the room behind it.
func withRoom[T any](l []T, other T) []T {
	return append(append(make([]T, 0, len(l)+2), l...), other, other)[:len(l)]
}

// roomy: w, with other things in the room behind all of its lists.
func roomy(w api.World) api.World {
	w.N, w.C = withRoom(w.N, unitOf([]api.Entry{drop})), withRoom(w.C, api.Client{Epoch: 77})
	for k := range w.N {
		n := &w.N[k]
		n.U.Cells, n.D.Safe, n.D.Wait = withRoom(n.U.Cells, ring), withRoom(n.D.Safe, '?'), withRoom(n.D.Wait, '?')
	}
	for i := range w.C {
		b := &w.C[i].B
		b.Jobs, b.Rung = withRoom(b.Jobs, api.Job{ID: 77}), withRoom(b.Rung, api.Rung{Job: 77})
	}
	return w
}

// wholeText: all of a world, with the room behind its lists.
func wholeText(w api.World) string {
	nodes, clients := slices.Clone(w.N[:cap(w.N)]), slices.Clone(w.C[:cap(w.C)])
	for k := range nodes {
		n := &nodes[k]
		n.U.Cells, n.D.Safe, n.D.Wait = n.U.Cells[:cap(n.U.Cells)], n.D.Safe[:cap(n.D.Safe)], n.D.Wait[:cap(n.D.Wait)]
	}
	for i := range clients {
		b := &clients[i].B
		b.Jobs, b.Rung = b.Jobs[:cap(b.Jobs)], b.Rung[:cap(b.Rung)]
	}
	return fmt.Sprint(nodes, clients, len(w.N), len(w.C), w.Tip, w.Time)
}

// spoil writes over a list that was answered, and the room behind it.
func spoil[T any](l []T, bad T) {
	for i := range l[:cap(l)] {
		l[:cap(l)][i] = bad
	}
}

// wantOnlyRead: what is handed in is as it was, both after the calls and once their answers are written over.
func wantOnlyRead(t *testing.T, w api.World) {
	t.Helper()
	was := wholeText(w)
	log, _ := Log(w)
	b, _ := Book(w)
	holes, _ := Holes(w)
	if got := wholeText(w); got != was {
		t.Errorf("Log, Book and Holes made %s of %s", got, was)
	}
	again, _ := Book(w)
	spoil(log, api.Entry{Kind: -5})
	spoil(holes, -5)
	spoil(b.Jobs, api.Job{ID: -5})
	if fmt.Sprint(b.Rung) != fmt.Sprint(again.Rung) {
		t.Errorf("Book(%s): its lists share memory", brief(w))
	}
	spoil(b.Rung, api.Rung{Job: -5})
	if got := wholeText(w); got != was {
		t.Errorf("what Log, Book and Holes answer of %s shares memory with it", brief(w))
	}
	if other, _ := Book(w); !alike(other, again) {
		t.Errorf("Book(%s) is kept", brief(w))
	}
}

func TestWhatIsHandedInIsOnlyRead(t *testing.T) {
	played := clientIs(0, api.Client{Epoch: 1, Played: 2, B: once()})
	for _, w := range []api.World{
		world.New(), some(), all(put, ring), all(full(junk)...), of(full(junk), full(junk), full(junk)[:59]),
		but(some(), played), but(some(), played, down(2, "2: junk\n4: dr"), down(0, "")),
	} {
		wantOnlyRead(t, w)
		wantOnlyRead(t, roomy(w))
	}
	for _, x := range wrongWorlds() {
		wantOnlyRead(t, x.w)
		wantOnlyRead(t, roomy(x.w))
	}
}

// Two answers of one world are two, though they say the same.
func TestAnswersAreApart(t *testing.T) {
	w := some()
	log, _ := Log(w)
	holes, _ := Holes(w)
	b, _ := Book(w)
	spoil(log, api.Entry{Kind: -5})
	spoil(holes, -5)
	spoil(b.Jobs, api.Job{ID: -5})
	spoil(b.Rung, api.Rung{Job: -5})
	wantTold(t, []told{{w, []api.Entry{put, ring}, once(), []int{2, 4, 5, 6, 7}}})
}
