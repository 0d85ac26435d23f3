// Package entry: entries of the log as words; see doc/01-entry.md.
package entry

import (
	"strconv"
	"strings"

	"carillon/api"
)

const (
	kinds       = api.Ring + 1
	mostNumbers = 3
	mostWords   = 1 + mostNumbers
)

// What a text begins with, and how many numbers follow, by kind.
var (
	names  = [kinds]string{api.Junk: "junk", api.Put: "put", api.Drop: "drop", api.Ring: "ring"}
	counts = [kinds]int{api.Junk: 0, api.Put: 3, api.Drop: 1, api.Ring: 3}
)

// Check says what is wrong with an entry.
func Check(e api.Entry) api.Errno {
	if e.Kind < api.Junk || e.Kind > api.Ring {
		return api.ErrForm
	}
	if !inRange(e) {
		return api.ErrRange
	}
	// What numbers leaves out is lost on the way, so an entry that has it doesn't come back.
	if build(e.Kind, numbers(e)) != e {
		return api.ErrForm
	}
	if e.Kind == api.Put && e.Every == 0 {
		return api.ErrForm
	}
	return api.OK
}

// Print writes an entry as words.
func Print(e api.Entry) (string, api.Errno) {
	if wrong := Check(e); wrong != api.OK {
		return "", wrong
	}
	words := [mostWords]string{names[e.Kind]}
	for i, n := range numbers(e) {
		words[1+i] = strconv.Itoa(n)
	}
	return strings.Join(words[:1+counts[e.Kind]], " "), api.OK
}

// Parse reads an entry that is written as Print writes it.
func Parse(s string) (api.Entry, api.Errno) {
	if len(s) > api.MaxText {
		return api.Entry{}, api.ErrMany
	}
	e, ok := read(s)
	if !ok {
		return api.Entry{}, api.ErrText
	}
	if wrong := Check(e); wrong != api.OK {
		return api.Entry{}, wrong
	}
	return e, api.OK
}

func inRange(e api.Entry) bool {
	return e.Job >= 0 && e.Job < api.MaxJobs &&
		e.Every >= 0 && e.Every <= api.MaxEvery &&
		e.Time >= 0 && e.Time <= api.MaxTime &&
		e.Client >= 0 && e.Client < api.MaxClients
}

// numbers: those that the entry's kind has a use for, in the order of its text; zero behind them.
func numbers(e api.Entry) [mostNumbers]int {
	switch e.Kind {
	case api.Put:
		return [mostNumbers]int{e.Job, e.Every, e.Time}
	case api.Drop:
		return [mostNumbers]int{e.Job}
	case api.Ring:
		return [mostNumbers]int{e.Job, e.Time, e.Client}
	}
	return [mostNumbers]int{}
}

// build: the entry of this kind that has these numbers.
func build(kind int, n [mostNumbers]int) api.Entry {
	switch kind {
	case api.Put:
		return api.Entry{Kind: kind, Job: n[0], Every: n[1], Time: n[2]}
	case api.Drop:
		return api.Entry{Kind: kind, Job: n[0]}
	case api.Ring:
		return api.Entry{Kind: kind, Job: n[0], Time: n[1], Client: n[2]}
	}
	return api.Entry{Kind: kind}
}

// read: the entry that is written in s, whatever its numbers; false: none is.
func read(s string) (api.Entry, bool) {
	words, count, ok := split(s)
	if !ok {
		return api.Entry{}, false
	}
	kind := kindOf(words[0])
	if kind < 0 || count != 1+counts[kind] {
		return api.Entry{}, false
	}
	var n [mostNumbers]int
	for i, word := range words[1:count] {
		if n[i], ok = number(word); !ok {
			return api.Entry{}, false
		}
	}
	return build(kind, n), true
}

// split: the words of s, and how many they are; false: more than any entry has.
func split(s string) ([mostWords]string, int, bool) {
	var words [mostWords]string
	rest := s
	for i := range words {
		word, behind, more := strings.Cut(rest, " ")
		words[i] = word
		if !more {
			return words, i + 1, true
		}
		rest = behind
	}
	return [mostWords]string{}, 0, false
}

// kindOf: the kind whose texts begin with this word; -1: there is none.
func kindOf(word string) int {
	for kind, name := range names {
		if word == name {
			return kind
		}
	}
	return -1
}

// number: what Itoa writes as this word; false: nothing, since Atoi takes signs and zeros ahead that Itoa doesn't write.
func number(word string) (int, bool) {
	n, err := strconv.Atoi(word)
	if err != nil || strconv.Itoa(n) != word {
		return 0, false
	}
	return n, true
}
