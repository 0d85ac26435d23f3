package note

import (
	"math"
	"strings"
	"testing"

	"carillon/api"
)

var (
	put   = api.Entry{Kind: api.Put, Job: 2, Every: 5, Time: 10}
	drop  = api.Entry{Kind: api.Drop, Job: 5}
	ring  = api.Entry{Kind: api.Ring, Job: 5, Time: api.MaxTime, Client: 2}
	blank = api.Entry{Kind: api.Blank}
	far   = api.Entry{Kind: api.Drop, Job: api.MaxJobs}
	idle  = api.Entry{Kind: api.Put, Job: 1, Time: 1}
)

// written: records, and how each is written; ordinary ones, and the ends of what may be.
var written = []struct {
	text string
	r    api.Rec
}{
	{"7: put 2 5 10", api.Rec{Kind: api.RWrite, At: 7, E: put}},
	{"0: junk", api.Rec{Kind: api.RWrite}},
	{"59: junk", api.Rec{Kind: api.RWrite, At: 59}},
	{"10: drop 5", api.Rec{Kind: api.RWrite, At: 10, E: drop}},
	{"59: ring 5 100000 2", api.Rec{Kind: api.RWrite, At: 59, E: ring}},
	{"seal 1", api.Rec{Kind: api.RSeal, Epoch: 1}},
	{"seal 3", api.Rec{Kind: api.RSeal, Epoch: 3}},
	{"seal 20", api.Rec{Kind: api.RSeal, Epoch: 20}},
}

func TestPrintAndParse(t *testing.T) {
	for _, x := range written {
		if wrong := Check(x.r); wrong != api.OK {
			t.Errorf("Check(%+v): %d", x.r, wrong)
		}
		if s, wrong := Print(x.r); s != x.text || wrong != api.OK {
			t.Errorf("Print(%+v): %q, %d, want %q", x.r, s, wrong, x.text)
		}
		if r, wrong := Parse(x.text); r != x.r || wrong != api.OK {
			t.Errorf("Parse(%q): %+v, %d, want %+v", x.text, r, wrong, x.r)
		}
	}
}

func TestCheckSaysWhatIsWrong(t *testing.T) {
	for _, x := range []struct {
		r    api.Rec
		want api.Errno
	}{
		{api.Rec{}, api.ErrForm},
		{api.Rec{Kind: -1}, api.ErrForm},
		{api.Rec{Kind: api.RSeal + 1}, api.ErrForm},
		{api.Rec{Kind: math.MaxInt}, api.ErrForm},
		{api.Rec{Kind: math.MinInt}, api.ErrForm},

		{api.Rec{Kind: api.RWrite, At: -1}, api.ErrRange},
		{api.Rec{Kind: api.RWrite, At: api.MaxCells}, api.ErrRange},
		{api.Rec{Kind: api.RWrite, At: math.MaxInt}, api.ErrRange},
		{api.Rec{Kind: api.RWrite, At: math.MinInt}, api.ErrRange},
		{api.Rec{Kind: api.RWrite, Epoch: 1}, api.ErrForm},
		{api.Rec{Kind: api.RWrite, Epoch: -1}, api.ErrForm},
		{api.Rec{Kind: api.RWrite, E: blank}, api.ErrForm},
		{api.Rec{Kind: api.RWrite, E: far}, api.ErrRange},
		{api.Rec{Kind: api.RWrite, E: idle}, api.ErrForm},
		{api.Rec{Kind: api.RWrite, E: api.Entry{Client: 1}}, api.ErrForm},

		{api.Rec{Kind: api.RSeal}, api.ErrRange},
		{api.Rec{Kind: api.RSeal, Epoch: -1}, api.ErrRange},
		{api.Rec{Kind: api.RSeal, Epoch: api.MaxEpoch + 1}, api.ErrRange},
		{api.Rec{Kind: api.RSeal, Epoch: math.MaxInt}, api.ErrRange},
		{api.Rec{Kind: api.RSeal, Epoch: math.MinInt}, api.ErrRange},
		{api.Rec{Kind: api.RSeal, Epoch: 1, At: 1}, api.ErrForm},
		{api.Rec{Kind: api.RSeal, Epoch: 1, At: -1}, api.ErrForm},
		{api.Rec{Kind: api.RSeal, Epoch: 1, At: api.MaxCells}, api.ErrForm},
		{api.Rec{Kind: api.RSeal, Epoch: 1, E: put}, api.ErrForm},
		{api.Rec{Kind: api.RSeal, Epoch: 1, E: blank}, api.ErrForm},
		{api.Rec{Kind: api.RSeal, Epoch: 1, E: far}, api.ErrForm},
		{api.Rec{Kind: api.RSeal, Epoch: 1, E: api.Entry{Job: 1}}, api.ErrForm},
		{api.Rec{Kind: api.RSeal, Epoch: 1, E: api.Entry{Every: 1}}, api.ErrForm},
		{api.Rec{Kind: api.RSeal, Epoch: 1, E: api.Entry{Time: 1}}, api.ErrForm},
		{api.Rec{Kind: api.RSeal, Epoch: 1, E: api.Entry{Client: 1}}, api.ErrForm},

		// Of several errors the one that is told first is the answer.
		{api.Rec{At: -1, E: far}, api.ErrForm},
		{api.Rec{Kind: api.RSeal + 1, Epoch: -1, At: -1}, api.ErrForm},
		{api.Rec{Kind: api.RWrite, At: -1, Epoch: 1}, api.ErrRange},
		{api.Rec{Kind: api.RWrite, At: api.MaxCells, E: blank}, api.ErrRange},
		{api.Rec{Kind: api.RWrite, Epoch: 1, E: far}, api.ErrForm},
		{api.Rec{Kind: api.RSeal, At: 1}, api.ErrRange},
		{api.Rec{Kind: api.RSeal, E: put}, api.ErrRange},
		{api.Rec{Kind: api.RSeal, Epoch: api.MaxEpoch + 1, At: 1, E: blank}, api.ErrRange},
	} {
		if got := Check(x.r); got != x.want {
			t.Errorf("Check(%+v): %d, want %d", x.r, got, x.want)
		}
		if s, wrong := Print(x.r); s != "" || wrong != x.want {
			t.Errorf("Print(%+v): %q, %d, want nothing and %d", x.r, s, wrong, x.want)
		}
	}
}

func TestParseSaysWhatIsWrong(t *testing.T) {
	for s, want := range map[string]api.Errno{
		"":              api.ErrText,
		" ":             api.ErrText,
		":":             api.ErrText,
		": ":            api.ErrText,
		": junk":        api.ErrText,
		"junk":          api.ErrText,
		"7":             api.ErrText,
		"7:":            api.ErrText,
		"7: ":           api.ErrText,
		"7 junk":        api.ErrText,
		"7:junk":        api.ErrText,
		"7 : junk":      api.ErrText,
		"7:  junk":      api.ErrText,
		" 7: junk":      api.ErrText,
		"7: junk ":      api.ErrText,
		"7: junk\n":     api.ErrText,
		"7:\tjunk":      api.ErrText,
		"07: junk":      api.ErrText,
		"+7: junk":      api.ErrText,
		"-0: junk":      api.ErrText,
		"0x7: junk":     api.ErrText,
		"x: junk":       api.ErrText,
		"７: junk":       api.ErrText,
		"7: x":          api.ErrText,
		"7: blank":      api.ErrText,
		"7: drop":       api.ErrText,
		"7: drop 01":    api.ErrText,
		"7: 7: junk":    api.ErrText,
		"7: seal 3":     api.ErrText,
		"7: junk: junk": api.ErrText,

		"seal":          api.ErrText,
		"seal ":         api.ErrText,
		"seal x":        api.ErrText,
		"seal  3":       api.ErrText,
		" seal 3":       api.ErrText,
		"seal 3 ":       api.ErrText,
		"seal 3\n":      api.ErrText,
		"seal 3 3":      api.ErrText,
		"seal 03":       api.ErrText,
		"seal +3":       api.ErrText,
		"seal -0":       api.ErrText,
		"seal3":         api.ErrText,
		"seal\t3":       api.ErrText,
		"Seal 3":        api.ErrText,
		"seals 3":       api.ErrText,
		"seal: junk":    api.ErrText,
		"seal : junk":   api.ErrText,
		"seal 7: junk":  api.ErrText,
		"seal 3: seal":  api.ErrText,
		"seal seal 3":   api.ErrText,
		"seal 3\x00":    api.ErrText,
		"write 7: junk": api.ErrText,

		"9223372036854775808: junk":  api.ErrText,
		"-9223372036854775809: junk": api.ErrText,
		"9223372036854775807: junk":  api.ErrRange,
		"-9223372036854775808: junk": api.ErrRange,
		"seal 9223372036854775808":   api.ErrText,
		"seal -9223372036854775809":  api.ErrText,
		"seal 9223372036854775807":   api.ErrRange,
		"seal -9223372036854775808":  api.ErrRange,

		"60: junk":        api.ErrRange,
		"-1: junk":        api.ErrRange,
		"seal 0":          api.ErrRange,
		"seal -1":         api.ErrRange,
		"seal 21":         api.ErrRange,
		"7: drop 6":       api.ErrRange,
		"7: ring 1 1 3":   api.ErrRange,
		"7: put 1 101 0":  api.ErrRange,
		"7: put 1 0 1":    api.ErrForm,
		"59: put 1 0 100": api.ErrForm,

		// The form is asked for first, then the entry's text, then the place.
		"x: drop 6":     api.ErrText,
		"07: put 1 0 1": api.ErrText,
		"60: x":         api.ErrText,
		"-1: drop 01":   api.ErrText,
		"60: put 1 0 1": api.ErrForm,
		"60: drop 6":    api.ErrRange,

		strings.Repeat("x", api.MaxText):                          api.ErrText,
		strings.Repeat("x", api.MaxText+1):                        api.ErrMany,
		strings.Repeat(": ", api.MaxText/2):                       api.ErrText,
		"seal " + strings.Repeat("1", api.MaxText-len("seal ")):   api.ErrText,
		"seal " + strings.Repeat("1", api.MaxText-len("seal ")+1): api.ErrMany,
		"7: " + strings.Repeat("x", api.MaxText-len("7: ")):       api.ErrText,
		"7: " + strings.Repeat("x", api.MaxText-len("7: ")+1):     api.ErrMany,
		"60: drop 6" + strings.Repeat(" ", api.MaxText):           api.ErrMany,
	} {
		r, wrong := Parse(s)
		if wrong != want || r != (api.Rec{}) {
			t.Errorf("Parse(%.40q, of %d bytes): %+v, %d, want all zero and %d", s, len(s), r, wrong, want)
		}
	}
}

// Whatever the fields are: what Check lets pass is printed and comes back, and nothing else is printed.
func TestParseOfPrintIsTheRecord(t *testing.T) {
	entries := [...]api.Entry{{}, put, drop, ring, {Kind: api.Ring}, blank, far, idle, {Job: 1}, {Kind: api.Put, Every: 1, Client: 1}}
	texts := map[string]api.Rec{}
	for kind := -1; kind <= api.RSeal+1; kind++ {
		for at := -1; at <= api.MaxCells; at++ {
			for epoch := -1; epoch <= api.MaxEpoch+1; epoch++ {
				for _, e := range entries {
					r := api.Rec{Kind: kind, At: at, Epoch: epoch, E: e}
					if s, ok := comesBack(t, r); ok {
						texts[s] = r
					}
				}
			}
		}
	}
	// Writes at each place of the 5 entries that pass; seals for each epoch; no two of them are written alike.
	if want := 5*api.MaxCells + api.MaxEpoch; len(texts) != want {
		t.Errorf("%d texts, want %d", len(texts), want)
	}
}

// comesBack: does r pass Check, and how is it written? Print and Parse must agree with it.
func comesBack(t *testing.T, r api.Rec) (string, bool) {
	t.Helper()
	want := Check(r)
	s, wrong := Print(r)
	if wrong != want {
		t.Errorf("Print(%+v): %d, but Check: %d", r, wrong, want)
	}
	if want != api.OK {
		return "", false
	}
	if got, wrong := Parse(s); got != r || wrong != api.OK {
		t.Errorf("Parse(%q): %+v, %d, want %+v", s, got, wrong, r)
	}
	return s, true
}

// Each record is written in one way alone: a text that is read is what is printed.
func FuzzPrintOfParseIsTheText(f *testing.F) {
	for _, x := range written {
		f.Add(x.text)
	}
	f.Add("07: junk")
	f.Add("seal 7: junk")
	f.Add("60: drop 6")
	f.Fuzz(func(t *testing.T, s string) {
		r, wrong := Parse(s)
		if wrong != api.OK {
			if r != (api.Rec{}) {
				t.Errorf("Parse(%q): %+v with error %d", s, r, wrong)
			}
			return
		}
		if got, wrong := Print(r); got != s || wrong != api.OK {
			t.Errorf("Print of Parse(%q): %q, %d", s, got, wrong)
		}
	})
}
