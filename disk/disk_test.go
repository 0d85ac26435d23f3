package disk

import (
	"math"
	"slices"
	"strings"
	"testing"

	"carillon/api"
	"carillon/note"
)

var (
	seal  = api.Rec{Kind: api.RSeal, Epoch: 2}
	write = api.Rec{Kind: api.RWrite, At: 7, E: api.Entry{Kind: api.Put, Job: 2, Every: 5, Time: 10}}
	last  = api.Rec{Kind: api.RWrite, At: 59, E: api.Entry{Kind: api.Ring, Job: 5, Time: api.MaxTime, Client: 2}}
	junk  = api.Rec{Kind: api.RWrite}
)

const (
	sealLine  = "seal 2\n"
	writeLine = "7: put 2 5 10\n"
	lastLine  = "59: ring 5 100000 2\n"
	junkLine  = "0: junk\n"
)

func diskOf(safe, wait string) api.Disk { return api.Disk{Safe: []byte(safe), Wait: []byte(wait)} }

func full() string { return strings.Repeat(sealLine, api.MaxLog) }

// alike: as Same, but not by it, since Same is under test itself.
func alike(a, b api.Disk) bool {
	return string(a.Safe) == string(b.Safe) && string(a.Wait) == string(b.Wait)
}

func isZero(d api.Disk) bool { return d.Safe == nil && d.Wait == nil }

func wantDisk(t *testing.T, what string, got api.Disk, wrong api.Errno, want api.Disk) {
	t.Helper()
	if wrong != api.OK || !alike(got, want) {
		t.Errorf("%s: %.60q, %.60q, %d, want %.60q, %.60q", what, got.Safe, got.Wait, wrong, want.Safe, want.Wait)
	}
}

func wantError(t *testing.T, what string, got api.Disk, wrong, want api.Errno) {
	t.Helper()
	if wrong != want || !isZero(got) {
		t.Errorf("%s: %.60q, %.60q, %d, want no lists and %d", what, got.Safe, got.Wait, wrong, want)
	}
}

func TestCheckLetsPass(t *testing.T) {
	for _, d := range []api.Disk{
		{},
		diskOf("", ""),
		diskOf(sealLine, ""),
		diskOf(junkLine+sealLine+writeLine+lastLine, ""),
		// Nothing is said of what the records make together.
		diskOf(writeLine+writeLine+sealLine+sealLine, ""),
		diskOf(full(), ""),
		// What waits may be anything.
		diskOf("", "x"),
		diskOf(sealLine, "seal"),
		diskOf(sealLine, "\x00\xff\n\n"),
		diskOf(full(), sealLine),
		diskOf("", strings.Repeat("\n", api.MaxText)),
		diskOf(full(), strings.Repeat("x", api.MaxText-len(full()))),
	} {
		if wrong := Check(d); wrong != api.OK {
			t.Errorf("Check(%.60q, %.60q): %d", d.Safe, d.Wait, wrong)
		}
	}
}

// wrongDisks: what may not be, and what Check says of it.
func wrongDisks() []struct {
	safe, wait string
	want       api.Errno
} {
	return []struct {
		safe, wait string
		want       api.Errno
	}{
		{"seal 2", "", api.ErrTorn},
		{"x", "", api.ErrTorn},
		{sealLine + "seal 3", "", api.ErrTorn},
		{sealLine + " ", "", api.ErrTorn},
		{"seal 2\r", "", api.ErrTorn},
		// What waits doesn't end a line of Safe.
		{"seal 2", "\n", api.ErrTorn},
		{"seal", " 2\n", api.ErrTorn},

		{"\n", "", api.ErrText},
		{"x\n", "", api.ErrText},
		{"junk\n", "", api.ErrText},
		{"seal 2\r\n", "", api.ErrText},
		{"\n" + sealLine, "", api.ErrText},
		{sealLine + "\n", "", api.ErrText},
		{sealLine + "\n" + sealLine, "", api.ErrText},
		{"seal 2 \n", "", api.ErrText},
		{"seal 2\x00\n", "", api.ErrText},
		{"7: blank\n", "", api.ErrText},
		{"07: junk\n", "", api.ErrText},
		{"seal 0\n", "", api.ErrRange},
		{"seal 21\n", "", api.ErrRange},
		{"60: junk\n", "", api.ErrRange},
		{sealLine + "7: drop 6\n", "", api.ErrRange},
		{"7: put 2 0 10\n", "", api.ErrForm},

		// The first line that is wrong tells the error.
		{"x\nseal 2", "", api.ErrText},
		{"seal 0\nx\n", "", api.ErrRange},
		{"x\nseal 0\n", "", api.ErrText},
		{"7: put 2 0 10\n" + full(), "", api.ErrForm},

		// Of one line too many, that it is too many is told last.
		{full() + sealLine, "", api.ErrMany},
		{full() + "seal 2", "", api.ErrTorn},
		{full() + "x\n", "", api.ErrText},
		{full() + "\n", "", api.ErrText},
		{full() + "seal 0\n", "", api.ErrRange},
		{full() + sealLine + "x\n", "", api.ErrMany},
		{full() + sealLine + "seal 2", "", api.ErrMany},
		{full() + full(), "", api.ErrMany},

		// How many bytes there are is told first, of both lists together.
		{strings.Repeat("x", api.MaxText), "", api.ErrTorn},
		{strings.Repeat("x", api.MaxText-1) + "\n", "", api.ErrText},
		{strings.Repeat("x", api.MaxText), "\n", api.ErrMany},
		{"x", strings.Repeat("\n", api.MaxText-1), api.ErrTorn},
		{"x", strings.Repeat("\n", api.MaxText), api.ErrMany},
		{"\n", strings.Repeat("x", api.MaxText), api.ErrMany},
		{"", strings.Repeat("x", api.MaxText+1), api.ErrMany},
		{strings.Repeat("\n", api.MaxText+1), "", api.ErrMany},
		{sealLine, strings.Repeat("x", api.MaxText-len(sealLine)+1), api.ErrMany},
	}
}

func TestCheckSaysWhatIsWrong(t *testing.T) {
	for _, x := range wrongDisks() {
		if got := Check(diskOf(x.safe, x.wait)); got != x.want {
			t.Errorf("Check(%.60q, %.60q): %d, want %d", x.safe, x.wait, got, x.want)
		}
	}
}

// Ahead of what else is wrong, the others say what Check says.
func TestOthersSayFirstWhatCheckSays(t *testing.T) {
	for _, x := range wrongDisks() {
		d := diskOf(x.safe, x.wait)
		for _, r := range []api.Rec{seal, {}, {Kind: api.RSeal}} {
			got, wrong := Put(d, r)
			wantError(t, "Put", got, wrong, x.want)
		}
		got, wrong := Sync(d)
		wantError(t, "Sync", got, wrong, x.want)
		for _, n := range []int{0, -1, len(x.wait), len(x.wait) + 1, math.MinInt, math.MaxInt} {
			got, wrong = Crash(d, n)
			wantError(t, "Crash", got, wrong, x.want)
		}
		got, records, wrong := Recover(d)
		wantError(t, "Recover", got, wrong, x.want)
		if records != nil {
			t.Errorf("Recover(%.60q, %.60q): records %v with an error", x.safe, x.wait, records)
		}
	}
}

func TestSame(t *testing.T) {
	texts := []string{"", "x", "y", "xy", sealLine, sealLine + sealLine, "\x00", strings.Repeat("x", api.MaxText+1)}
	for _, safe := range texts {
		for _, wait := range texts {
			for _, otherSafe := range texts {
				for _, otherWait := range texts {
					want := safe == otherSafe && wait == otherWait
					if got := Same(diskOf(safe, wait), diskOf(otherSafe, otherWait)); got != want {
						t.Errorf("Same(%.20q, %.20q; %.20q, %.20q): %v", safe, wait, otherSafe, otherWait, got)
					}
				}
			}
		}
	}
	if !Same(api.Disk{}, api.Disk{Safe: []byte{}, Wait: []byte{}}) {
		t.Error("no lists and empty ones aren't the same")
	}
}

func TestPut(t *testing.T) {
	for _, x := range []struct {
		d    api.Disk
		r    api.Rec
		wait string
	}{
		{api.Disk{}, seal, sealLine},
		{api.Disk{}, junk, junkLine},
		{diskOf(sealLine, ""), write, writeLine},
		{diskOf(sealLine, writeLine), last, writeLine + lastLine},
		{diskOf(sealLine, sealLine), seal, sealLine + sealLine},
		// It goes behind whatever waits, torn as that may be.
		{diskOf(sealLine, "seal"), seal, "seal" + sealLine},
		{diskOf("", "\n"), seal, "\n" + sealLine},
		// How many records wait isn't asked, only how many bytes.
		{diskOf(full(), ""), seal, sealLine},
		{diskOf(full(), full()), seal, full() + sealLine},
		{diskOf("", strings.Repeat("x", api.MaxText-len(sealLine))), seal, strings.Repeat("x", api.MaxText-len(sealLine)) + sealLine},
	} {
		got, wrong := Put(x.d, x.r)
		wantDisk(t, "Put", got, wrong, api.Disk{Safe: x.d.Safe, Wait: []byte(x.wait)})
	}
}

func TestPutSaysWhatIsWrong(t *testing.T) {
	filled := diskOf(sealLine, strings.Repeat("x", api.MaxText-len(sealLine)))
	for _, x := range []struct {
		d    api.Disk
		r    api.Rec
		want api.Errno
	}{
		{api.Disk{}, api.Rec{}, api.ErrForm},
		{api.Disk{}, api.Rec{Kind: api.RSeal}, api.ErrRange},
		{api.Disk{}, api.Rec{Kind: api.RSeal, Epoch: 2, At: 1}, api.ErrForm},
		{api.Disk{}, api.Rec{Kind: api.RWrite, At: api.MaxCells}, api.ErrRange},
		{api.Disk{}, api.Rec{Kind: api.RWrite, E: api.Entry{Kind: api.Blank}}, api.ErrForm},
		{api.Disk{}, api.Rec{Kind: api.RWrite, E: api.Entry{Kind: api.Drop, Job: api.MaxJobs}}, api.ErrRange},

		{filled, seal, api.ErrMany},
		{diskOf("", strings.Repeat("x", api.MaxText)), seal, api.ErrMany},
		// One byte of room less than the line with its line feed has.
		{diskOf("", strings.Repeat("x", api.MaxText-len(sealLine)+1)), seal, api.ErrMany},
		{diskOf(sealLine, strings.Repeat("x", api.MaxText-2*len(sealLine)+1)), seal, api.ErrMany},
		// The record's error is told ahead of that.
		{filled, api.Rec{}, api.ErrForm},
		{filled, api.Rec{Kind: api.RSeal}, api.ErrRange},
	} {
		got, wrong := Put(x.d, x.r)
		wantError(t, "Put", got, wrong, x.want)
	}
}

func TestSync(t *testing.T) {
	for _, x := range []struct{ safe, wait string }{
		{"", ""},
		{sealLine, ""},
		{"", sealLine},
		{sealLine, writeLine + lastLine},
		{"", full()},
		{full(), ""},
		{full()[len(sealLine):], lastLine},
	} {
		got, wrong := Sync(diskOf(x.safe, x.wait))
		wantDisk(t, "Sync", got, wrong, diskOf(x.safe+x.wait, ""))
	}
}

func TestSyncSaysWhatIsWrong(t *testing.T) {
	for _, x := range []struct {
		safe, wait string
		want       api.Errno
	}{
		{"", "seal 2", api.ErrTorn},
		{sealLine, sealLine + "s", api.ErrTorn},
		{"", "x\n", api.ErrText},
		{sealLine, "\n", api.ErrText},
		{sealLine, "seal" + sealLine, api.ErrText},
		{sealLine, "seal 0\n", api.ErrRange},
		{sealLine, "7: put 2 0 10\n", api.ErrForm},
		{sealLine, "seal 0\nx\n", api.ErrRange},
		{full(), sealLine, api.ErrMany},
		{sealLine, full(), api.ErrMany},
		{"", full() + sealLine, api.ErrMany},
		{full(), "x\n", api.ErrText},
		{full(), "seal", api.ErrTorn},
	} {
		got, wrong := Sync(diskOf(x.safe, x.wait))
		wantError(t, "Sync", got, wrong, x.want)
	}
}

func TestCrash(t *testing.T) {
	wait := sealLine + "x\x00\n\n" + writeLine
	for n := 0; n <= len(wait); n++ {
		got, wrong := Crash(diskOf(sealLine, wait), n)
		wantDisk(t, "Crash", got, wrong, diskOf(sealLine, wait[:n]))
	}
	got, wrong := Crash(api.Disk{}, 0)
	wantDisk(t, "Crash of nothing", got, wrong, api.Disk{})
}

func TestCrashSaysWhatIsWrong(t *testing.T) {
	for _, wait := range []string{"", "x", sealLine} {
		for _, n := range []int{-1, len(wait) + 1, api.MaxText, math.MinInt, math.MaxInt} {
			// Room behind the list isn't of it.
			d := api.Disk{Safe: []byte(sealLine), Wait: append([]byte(wait), sealLine...)[:len(wait)]}
			got, wrong := Crash(d, n)
			wantError(t, "Crash", got, wrong, api.ErrRange)
		}
	}
}

func TestRecover(t *testing.T) {
	most := slices.Repeat([]api.Rec{seal}, api.MaxLog)
	for _, x := range []struct {
		safe, wait, kept string
		records          []api.Rec
	}{
		{"", "", "", nil},
		{sealLine, "", "", []api.Rec{seal}},
		{"", sealLine, sealLine, []api.Rec{seal}},
		{sealLine + junkLine, writeLine + lastLine, writeLine + lastLine, []api.Rec{seal, junk, write, last}},
		// A line is whole only with its line feed.
		{sealLine, "seal 2", "", []api.Rec{seal}},
		{sealLine, writeLine + "seal 2", writeLine, []api.Rec{seal, write}},
		// Nothing behind a line that is no record is kept.
		{sealLine, "x\n" + writeLine, "", []api.Rec{seal}},
		{sealLine, "\n" + writeLine, "", []api.Rec{seal}},
		{sealLine, writeLine + "\n" + writeLine, writeLine, []api.Rec{seal, write}},
		{sealLine, writeLine + "seal 0\n" + writeLine, writeLine, []api.Rec{seal, write}},
		{sealLine, writeLine + "7: put 2 0 10\n" + writeLine, writeLine, []api.Rec{seal, write}},
		{sealLine, "seal" + sealLine + writeLine, "", []api.Rec{seal}},
		{"", strings.Repeat("x", api.MaxText), "", nil},
		{"", strings.Repeat("\n", api.MaxText), "", nil},
		// What the records make together isn't asked.
		{sealLine, sealLine + sealLine, sealLine + sealLine, []api.Rec{seal, seal, seal}},
		// No more than MaxLog in all.
		{"", full(), full(), most},
		{full(), "", "", most},
		{full(), sealLine, "", most},
		{full(), "x\n", "", most},
		{full(), full(), "", most},
		{full()[len(sealLine):], sealLine + sealLine, sealLine, most},
		{full()[len(sealLine):], "x\n" + sealLine, "", most[1:]},
		{"", full() + sealLine, full(), most},
	} {
		got, records, wrong := Recover(diskOf(x.safe, x.wait))
		wantDisk(t, "Recover", got, wrong, diskOf(x.safe+x.kept, ""))
		if !slices.Equal(records, x.records) {
			t.Errorf("Recover(%.60q, %.60q): %d records, want %d", x.safe, x.wait, len(records), len(x.records))
		}
	}
}

// run: the records of a disk that was put to use: synced ones, and those that wait; at each step the power may go.
type run struct {
	t            *testing.T
	d            api.Disk
	synced, open []api.Rec
}

// losePower: whatever is kept of what waits, all that was synced is there, and a beginning of the rest: each whole line.
func (x run) losePower() {
	for n := 0; n <= len(x.d.Wait); n++ {
		crashed, wrong := Crash(x.d, n)
		if wrong != api.OK {
			x.t.Fatalf("Crash(%q, %q, %d): %d", x.d.Safe, x.d.Wait, n, wrong)
		}
		got, records, wrong := Recover(crashed)
		lines := strings.Count(string(x.d.Wait[:n]), "\n")
		want := slices.Concat(x.synced, x.open[:lines])
		if wrong != api.OK || !slices.Equal(records, want) || len(got.Wait) != 0 {
			x.t.Fatalf("Recover(%q, %q): %v, %d, want %v", crashed.Safe, crashed.Wait, records, wrong, want)
		}
		if again, more, _ := Recover(got); !alike(again, got) || !slices.Equal(more, records) {
			x.t.Fatalf("Recover of %q, which is recovered: %q", got.Safe, again.Safe)
		}
	}
}

// steps: all rows of so many steps, each a put or a sync or a loss of power.
func (x run) steps(left int) {
	x.losePower()
	if left == 0 {
		return
	}
	for _, r := range []api.Rec{seal, write} {
		d, wrong := Put(x.d, r)
		if wrong != api.OK {
			x.t.Fatalf("Put(%q, %q, %v): %d", x.d.Safe, x.d.Wait, r, wrong)
		}
		run{x.t, d, x.synced, append(slices.Clone(x.open), r)}.steps(left - 1)
	}
	d, wrong := Sync(x.d)
	if wrong != api.OK {
		x.t.Fatalf("Sync(%q, %q): %d", x.d.Safe, x.d.Wait, wrong)
	}
	run{x.t, d, slices.Concat(x.synced, x.open), nil}.steps(left - 1)
	if len(x.d.Wait) == 0 {
		return
	}
	crashed, _ := Crash(x.d, len(x.d.Wait)-1)
	d, records, _ := Recover(crashed)
	run{x.t, d, records, nil}.steps(left - 1)
}

func TestWhatWasSyncedIsThere(t *testing.T) { run{t: t}.steps(6) }

// roomy: a list of these bytes, and the whole memory of it: with room behind that is to stay as it is.
func roomy(s string) (list, whole []byte) {
	whole = append([]byte(s), "spare room behind, of some length"...)
	return whole[:len(s)], whole
}

// What is handed in stays as it is, behind its end, too; and what is answered shares nothing with it, nor with itself.
func TestOnlyReadsAndAnswersNewMemory(t *testing.T) {
	calls := map[string]func(d api.Disk) api.Disk{
		"Put":     func(d api.Disk) api.Disk { d, _ = Put(d, seal); return d },
		"Sync":    func(d api.Disk) api.Disk { d, _ = Sync(d); return d },
		"Crash":   func(d api.Disk) api.Disk { d, _ = Crash(d, len(d.Wait)); return d },
		"tear":    func(d api.Disk) api.Disk { d, _ = Crash(d, len(d.Wait)/2); return d },
		"Recover": func(d api.Disk) api.Disk { d, _, _ = Recover(d); return d },
		"Check":   func(d api.Disk) api.Disk { Check(d); return api.Disk{} },
		"Same":    func(d api.Disk) api.Disk { Same(d, d); return api.Disk{} },
	}
	for name, call := range calls {
		for _, x := range []struct{ safe, wait string }{{sealLine, writeLine}, {"", ""}, {sealLine, ""}, {"", sealLine}} {
			safe, wholeSafe := roomy(x.safe)
			wait, wholeWait := roomy(x.wait)
			beforeSafe, beforeWait := string(wholeSafe), string(wholeWait)
			got := call(api.Disk{Safe: safe, Wait: wait})
			overwrite(got.Safe)
			if wantWait := string(call(api.Disk{Safe: safe, Wait: wait}).Wait); string(got.Wait) != wantWait {
				t.Errorf("%s: the two lists of an answer share memory", name)
			}
			overwrite(got.Wait)
			if string(wholeSafe) != beforeSafe || string(wholeWait) != beforeWait {
				t.Errorf("%s: what was handed in is %q, %q, was %q, %q", name, wholeSafe, wholeWait, beforeSafe, beforeWait)
			}
		}
	}
}

// overwrite fills a list and the room behind it.
func overwrite(l []byte) {
	l = l[:cap(l)]
	for i := range l {
		l[i] = '#'
	}
}

// Whatever is on a disk: what is recovered is a beginning of it that has all of Safe; it is what a sync makes, where there may be one.
func FuzzRecoverKeepsABeginning(f *testing.F) {
	f.Add([]byte(sealLine), []byte(writeLine))
	f.Add([]byte(sealLine), []byte(writeLine+"seal"))
	f.Add([]byte("seal"), []byte(" 2\n"))
	f.Add([]byte(""), []byte("x\n\n"))
	f.Add([]byte(full()), []byte(sealLine))
	f.Fuzz(func(t *testing.T, safe, wait []byte) {
		d := api.Disk{Safe: safe, Wait: wait}
		got, records, wrong := Recover(d)
		if wrong != Check(d) {
			t.Fatalf("Recover(%q, %q): %d, but Check: %d", safe, wait, wrong, Check(d))
		}
		if wrong != api.OK {
			return
		}
		text := string(got.Safe)
		if !strings.HasPrefix(text, string(safe)) || !strings.HasPrefix(string(safe)+string(wait), text) || len(got.Wait) > 0 {
			t.Errorf("Recover(%q, %q): %q, %q", safe, wait, got.Safe, got.Wait)
		}
		if printed := printAll(t, records); printed != text {
			t.Errorf("Recover(%q, %q): records of %q, but safe is %q", safe, wait, printed, text)
		}
		if synced, wrong := Sync(d); wrong == api.OK && !alike(synced, got) {
			t.Errorf("Recover(%q, %q): %q, but Sync: %q", safe, wait, text, synced.Safe)
		}
	})
}

func printAll(t *testing.T, records []api.Rec) string {
	t.Helper()
	var text strings.Builder
	for _, r := range records {
		line, wrong := note.Print(r)
		if wrong != api.OK {
			t.Errorf("Print(%+v): %d", r, wrong)
		}
		text.WriteString(line + "\n")
	}
	return text.String()
}
