package ledger

import (
	"slices"
	"strings"
	"testing"

	"carillon/api"
)

var (
	put  = api.Entry{Kind: api.Put, Job: 2, Every: 5, Time: 10}
	drop = api.Entry{Kind: api.Drop, Job: 2}
	ring = api.Entry{Kind: api.Ring, Job: 2, Time: 10}
	junk = api.Entry{}
	last = api.Entry{Kind: api.Ring, Job: 5, Time: api.MaxTime, Client: 2}
)

// written: rows, and how each is written.
var written = []struct {
	text string
	l    []api.Entry
}{
	{"", nil},
	{"junk\n", []api.Entry{junk}},
	{"put 2 5 10\njunk\n", []api.Entry{put, junk}},
	{"put 2 5 10\nring 2 10 0\ndrop 2\nput 2 5 10\n", []api.Entry{put, ring, drop, put}},
	{"ring 2 10 0\nring 2 10 0\n", []api.Entry{ring, ring}},
	{strings.Repeat("ring 5 100000 2\n", api.MaxCells), slices.Repeat([]api.Entry{last}, api.MaxCells)},
}

func TestPrintAndParse(t *testing.T) {
	for _, x := range written {
		if s, wrong := Print(x.l); s != x.text || wrong != api.OK {
			t.Errorf("Print(%v): %q, %d, want %q", x.l, s, wrong, x.text)
		}
		if l, wrong := Parse(x.text); !slices.Equal(l, x.l) || wrong != api.OK {
			t.Errorf("Parse(%q): %v, %d, want %v", x.text, l, wrong, x.l)
		}
	}
}

func TestPrintSaysWhatIsWrong(t *testing.T) {
	far, blank := api.Entry{Kind: api.Drop, Job: api.MaxJobs}, api.Entry{Kind: api.Blank}
	for _, x := range []struct {
		l    []api.Entry
		want api.Errno
	}{
		{[]api.Entry{blank}, api.ErrForm},
		{[]api.Entry{far}, api.ErrRange},
		{[]api.Entry{put, ring, far}, api.ErrRange},
		// The first that is wrong tells the error.
		{[]api.Entry{put, far, blank}, api.ErrRange},
		{[]api.Entry{put, blank, far}, api.ErrForm},
		// At the limit the entries are looked at, beyond it they aren't.
		{append(make([]api.Entry, api.MaxCells-1), far), api.ErrRange},
		{make([]api.Entry, api.MaxCells+1), api.ErrMany},
		{append([]api.Entry{blank}, make([]api.Entry, api.MaxCells)...), api.ErrMany},
	} {
		if s, wrong := Print(x.l); s != "" || wrong != x.want {
			t.Errorf("Print(%v): %q, %d, want nothing and %d", x.l, s, wrong, x.want)
		}
	}
}

func TestParseSaysWhatIsWrong(t *testing.T) {
	full := strings.Repeat("junk\n", api.MaxCells)
	for _, x := range []struct {
		text string
		want api.Errno
	}{
		{"junk", api.ErrTorn},
		{"x", api.ErrTorn},
		{"junk\njunk", api.ErrTorn},
		{"junk\n ", api.ErrTorn},
		{"junk\r", api.ErrTorn},

		{"\n", api.ErrText},
		{"x\n", api.ErrText},
		{"junk\r\n", api.ErrText},
		{"\njunk\n", api.ErrText},
		{"junk\n\n", api.ErrText},
		{"junk\n\njunk\n", api.ErrText},
		{"junk \n", api.ErrText},
		{"junk\n junk\n", api.ErrText},
		{"junk\x00\n", api.ErrText},
		{"blank\n", api.ErrText},
		{"drop 6\n", api.ErrRange},
		{"junk\ndrop 6\n", api.ErrRange},
		{"put 2 0 10\n", api.ErrForm},

		// The first line that is wrong tells the error.
		{"x\njunk", api.ErrText},
		{"drop 6\nx\n", api.ErrRange},
		{"x\ndrop 6\n", api.ErrText},
		{"put 2 0 10\n" + full, api.ErrForm},

		// Of one line too many, that it is too many is told last.
		{full + "junk\n", api.ErrMany},
		{full + "junk", api.ErrTorn},
		{full + "x\n", api.ErrText},
		{full + "\n", api.ErrText},
		{full + "drop 6\n", api.ErrRange},
		{full + "junk\nx\n", api.ErrMany},
		{full + "junk\njunk", api.ErrMany},
		{full + full, api.ErrMany},

		{strings.Repeat("x", api.MaxText), api.ErrTorn},
		{strings.Repeat("x", api.MaxText-1) + "\n", api.ErrText},
		{strings.Repeat("\n", api.MaxText), api.ErrText},
		{strings.Repeat("x", api.MaxText+1), api.ErrMany},
		{strings.Repeat("x", api.MaxText) + "\n", api.ErrMany},
		{strings.Repeat("\n", api.MaxText+1), api.ErrMany},
	} {
		if l, wrong := Parse(x.text); l != nil || wrong != x.want {
			t.Errorf("Parse(%.40q, of %d bytes): %v, %d, want no list and %d", x.text, len(x.text), l, wrong, x.want)
		}
	}
}

// What is handed in stays as it is, behind its end, too.
func TestPrintOnlyReads(t *testing.T) {
	whole := []api.Entry{put, ring, drop, last}
	before := slices.Clone(whole)
	if s, wrong := Print(whole[:2]); s != "put 2 5 10\nring 2 10 0\n" || wrong != api.OK {
		t.Errorf("Print: %q, %d", s, wrong)
	}
	if !slices.Equal(whole, before) {
		t.Errorf("Print left %v, want %v", whole, before)
	}
}

// Two answers share nothing.
func TestParseAnswersNewMemory(t *testing.T) {
	const s = "put 2 5 10\njunk\n"
	first, _ := Parse(s)
	second, _ := Parse(s)
	first[0] = last
	if want := []api.Entry{put, junk}; !slices.Equal(second, want) {
		t.Errorf("a change of one answer makes the other %v, want %v", second, want)
	}
}

// Each row is written in one way alone: a text that is read is what is printed, and comes back.
func FuzzPrintOfParseIsTheText(f *testing.F) {
	for _, x := range written {
		f.Add(x.text)
	}
	f.Add("junk\ndrop 1")
	f.Add("junk\n\n")
	f.Fuzz(func(t *testing.T, s string) {
		l, wrong := Parse(s)
		if wrong != api.OK {
			if l != nil {
				t.Errorf("Parse(%q): %v with error %d", s, l, wrong)
			}
			return
		}
		if got, wrong := Print(l); got != s || wrong != api.OK {
			t.Errorf("Print of Parse(%q): %q, %d", s, got, wrong)
		}
	})
}
