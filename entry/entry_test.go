package entry

import (
	"math"
	"strings"
	"testing"

	"carillon/api"
)

// written: entries, and how each is written; ordinary ones, and the ends of what may be.
var written = []struct {
	text string
	e    api.Entry
}{
	{"junk", api.Entry{}},
	{"put 2 5 10", api.Entry{Kind: api.Put, Job: 2, Every: 5, Time: 10}},
	{"put 0 1 0", api.Entry{Kind: api.Put, Every: 1}},
	{"put 5 100 100000", api.Entry{Kind: api.Put, Job: 5, Every: 100, Time: 100000}},
	{"drop 0", api.Entry{Kind: api.Drop}},
	{"drop 5", api.Entry{Kind: api.Drop, Job: 5}},
	{"ring 2 10 0", api.Entry{Kind: api.Ring, Job: 2, Time: 10}},
	{"ring 0 0 0", api.Entry{Kind: api.Ring}},
	{"ring 5 100000 2", api.Entry{Kind: api.Ring, Job: 5, Time: 100000, Client: 2}},
}

func TestPrintAndParse(t *testing.T) {
	for _, x := range written {
		if wrong := Check(x.e); wrong != api.OK {
			t.Errorf("Check(%+v): %d", x.e, wrong)
		}
		if s, wrong := Print(x.e); s != x.text || wrong != api.OK {
			t.Errorf("Print(%+v): %q, %d, want %q", x.e, s, wrong, x.text)
		}
		if e, wrong := Parse(x.text); e != x.e || wrong != api.OK {
			t.Errorf("Parse(%q): %+v, %d, want %+v", x.text, e, wrong, x.e)
		}
	}
}

func TestCheckSaysWhatIsWrong(t *testing.T) {
	for _, x := range []struct {
		e    api.Entry
		want api.Errno
	}{
		{api.Entry{Kind: -1}, api.ErrForm},
		{api.Entry{Kind: api.Blank}, api.ErrForm},
		{api.Entry{Kind: math.MaxInt}, api.ErrForm},
		{api.Entry{Kind: math.MinInt}, api.ErrForm},

		{api.Entry{Kind: api.Drop, Job: -1}, api.ErrRange},
		{api.Entry{Kind: api.Drop, Job: api.MaxJobs}, api.ErrRange},
		{api.Entry{Kind: api.Drop, Job: math.MinInt}, api.ErrRange},
		{api.Entry{Kind: api.Put, Every: -1}, api.ErrRange},
		{api.Entry{Kind: api.Put, Every: api.MaxEvery + 1}, api.ErrRange},
		{api.Entry{Kind: api.Put, Every: 1, Time: -1}, api.ErrRange},
		{api.Entry{Kind: api.Put, Every: 1, Time: api.MaxTime + 1}, api.ErrRange},
		{api.Entry{Kind: api.Ring, Time: math.MaxInt}, api.ErrRange},
		{api.Entry{Kind: api.Ring, Client: -1}, api.ErrRange},
		{api.Entry{Kind: api.Ring, Client: api.MaxClients}, api.ErrRange},

		{api.Entry{Kind: api.Junk, Job: 1}, api.ErrForm},
		{api.Entry{Kind: api.Junk, Every: 1}, api.ErrForm},
		{api.Entry{Kind: api.Junk, Time: 1}, api.ErrForm},
		{api.Entry{Kind: api.Junk, Client: 1}, api.ErrForm},
		{api.Entry{Kind: api.Put, Every: 1, Client: 1}, api.ErrForm},
		{api.Entry{Kind: api.Put}, api.ErrForm},
		{api.Entry{Kind: api.Drop, Every: 1}, api.ErrForm},
		{api.Entry{Kind: api.Drop, Time: 1}, api.ErrForm},
		{api.Entry{Kind: api.Drop, Client: 1}, api.ErrForm},
		{api.Entry{Kind: api.Ring, Every: 1}, api.ErrForm},
	} {
		if got := Check(x.e); got != x.want {
			t.Errorf("Check(%+v): %d, want %d", x.e, got, x.want)
		}
		if s, wrong := Print(x.e); s != "" || wrong != x.want {
			t.Errorf("Print(%+v): %q, %d, want nothing and %d", x.e, s, wrong, x.want)
		}
	}
}

// Of several errors the one that is told first is the answer.
func TestCheckOrder(t *testing.T) {
	for _, x := range []struct {
		e    api.Entry
		want api.Errno
	}{
		{api.Entry{Kind: api.Blank, Job: -1}, api.ErrForm},
		{api.Entry{Kind: -1, Time: api.MaxTime + 1}, api.ErrForm},
		{api.Entry{Kind: api.Junk, Job: api.MaxJobs}, api.ErrRange},
		{api.Entry{Kind: api.Junk, Job: 1, Client: -1}, api.ErrRange},
		{api.Entry{Kind: api.Drop, Every: 1, Time: api.MaxTime + 1}, api.ErrRange},
		{api.Entry{Kind: api.Put, Every: 0, Client: api.MaxClients}, api.ErrRange},
		{api.Entry{Kind: api.Ring, Every: api.MaxEvery + 1}, api.ErrRange},
	} {
		if got := Check(x.e); got != x.want {
			t.Errorf("Check(%+v): %d, want %d", x.e, got, x.want)
		}
	}
}

func TestParseSaysWhatIsWrong(t *testing.T) {
	for s, want := range map[string]api.Errno{
		"":             api.ErrText,
		" ":            api.ErrText,
		"Junk":         api.ErrText,
		"junk ":        api.ErrText,
		" junk":        api.ErrText,
		"junk\n":       api.ErrText,
		"junk 0":       api.ErrText,
		"jun":          api.ErrText,
		"junk\x00":     api.ErrText,
		"bell 1":       api.ErrText,
		"blank":        api.ErrText,
		"put":          api.ErrText,
		"put 2 5":      api.ErrText,
		"put 2 5 ":     api.ErrText,
		"put 2 5 10 ":  api.ErrText,
		"put 2 5 10 0": api.ErrText,
		"put  2 5 10":  api.ErrText,
		"put\t2 5 10":  api.ErrText,
		"put 2 05 10":  api.ErrText,
		"drop":         api.ErrText,
		"drop ":        api.ErrText,
		"drop 1 1":     api.ErrText,
		"drop +1":      api.ErrText,
		"drop -0":      api.ErrText,
		"drop -":       api.ErrText,
		"drop 00":      api.ErrText,
		"drop 0x1":     api.ErrText,
		"drop 1_0":     api.ErrText,
		"drop 1.0":     api.ErrText,
		"drop one":     api.ErrText,
		"drop １":       api.ErrText,
		"ring 1 1":     api.ErrText,
		"ring 1 1 1 1": api.ErrText,

		"drop 9223372036854775808":  api.ErrText,
		"drop -9223372036854775809": api.ErrText,
		"drop 9223372036854775807":  api.ErrRange,
		"drop -9223372036854775808": api.ErrRange,

		"drop -1":        api.ErrRange,
		"drop 6":         api.ErrRange,
		"put 6 1 1":      api.ErrRange,
		"put 1 101 0":    api.ErrRange,
		"put 1 -1 0":     api.ErrRange,
		"put 1 1 100001": api.ErrRange,
		"ring 1 -1 1":    api.ErrRange,
		"ring 1 1 3":     api.ErrRange,
		"put 6 0 1":      api.ErrRange,
		"put 2 0 1":      api.ErrForm,

		strings.Repeat("x", api.MaxText):                        api.ErrText,
		strings.Repeat("x", api.MaxText+1):                      api.ErrMany,
		strings.Repeat(" ", api.MaxText):                        api.ErrText,
		"drop " + strings.Repeat("1", api.MaxText-len("drop ")): api.ErrText,
		"drop 6" + strings.Repeat(" ", api.MaxText):             api.ErrMany,
	} {
		e, wrong := Parse(s)
		if wrong != want || e != (api.Entry{}) {
			t.Errorf("Parse(%.40q): %+v, %d, want all zero and %d", s, e, wrong, want)
		}
	}
}

// Whatever the fields are: what Check lets pass is printed and comes back, and nothing else is printed.
func TestParseOfPrintIsTheEntry(t *testing.T) {
	edges := [...]int{math.MinInt, -1, 0, 1, 2, 3, 4, 5, 6, 99, 100, 101, 99999, 100000, 100001, math.MaxInt}
	passed := 0
	for _, kind := range edges {
		for _, job := range edges {
			for _, every := range edges {
				for _, time := range edges {
					for _, client := range edges {
						e := api.Entry{Kind: kind, Job: job, Every: every, Time: time, Client: client}
						if comesBack(t, e) {
							passed++
						}
					}
				}
			}
		}
	}
	// 1 junk; puts of 6 jobs, 8 everys, 12 times; drops of 6 jobs; rings of 6 jobs, 12 times, 3 clients.
	if want := 1 + 6*8*12 + 6 + 6*12*3; passed != want {
		t.Errorf("%d entries pass, want %d", passed, want)
	}
}

// comesBack: does e pass Check? Print and Parse must agree with it.
func comesBack(t *testing.T, e api.Entry) bool {
	t.Helper()
	want := Check(e)
	s, wrong := Print(e)
	if wrong != want {
		t.Errorf("Print(%+v): %d, but Check: %d", e, wrong, want)
	}
	if want != api.OK {
		return false
	}
	if got, wrong := Parse(s); got != e || wrong != api.OK {
		t.Errorf("Parse(%q): %+v, %d, want %+v", s, got, wrong, e)
	}
	return true
}

// Each entry is written in one way alone: a text that is read is what is printed.
func FuzzPrintOfParseIsTheText(f *testing.F) {
	for _, x := range written {
		f.Add(x.text)
	}
	f.Add("put 2 05 1")
	f.Add("ring -0 +1 1")
	f.Fuzz(func(t *testing.T, s string) {
		e, wrong := Parse(s)
		if wrong != api.OK {
			if e != (api.Entry{}) {
				t.Errorf("Parse(%q): %+v with error %d", s, e, wrong)
			}
			return
		}
		if got, wrong := Print(e); got != s || wrong != api.OK {
			t.Errorf("Print of Parse(%q): %q, %d", s, got, wrong)
		}
	})
}
