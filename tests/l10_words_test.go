package tests

import (
	"regexp"
	"slices"
	"strconv"
	"strings"

	"loop.example/g00297/impl"
)

// The script by the words of the document: a line is told by a pattern of the whole of it; acts, views, facts and proofs are those of the other chapters by their words.

const decimalForm = `(0|[1-9][0-9]{0,9})`

var (
	schemaLine = regexp.MustCompile(`(?s)^(new|move) (.*)$`)
	changeLine = regexp.MustCompile(`(?s)^(sync )?(add|drop) (.*)$`)
	powerLine  = regexp.MustCompile(`^ *(save|open)(?: +` + decimalForm + `)? *$`)
	crashLine  = regexp.MustCompile(`^ *crash +` + decimalForm + ` +` + decimalForm + ` *$`)
	askLine    = regexp.MustCompile(`^ *(check|users|objects|proof) +([^ ]+) *$`)
	bareLine   = regexp.MustCompile(`^ *(tuples|files) *$`)
)

func scriptByWords(text string) string {
	lines := strings.Split(text, "\n")
	if lines[len(lines)-1] != "" || len(lines) > 41 || len(text) > 4000 {
		return "too long\n"
	}
	var d impl.Disk
	said := ""
	for _, line := range lines {
		if strings.ReplaceAll(line, " ", "") == "" {
			continue
		}
		next, words := lineByWords(d, line)
		d = next
		said += words + "\n"
	}
	return said
}

// lineByWords answers the disk behind a line, and what it says.
func lineByWords(d impl.Disk, line string) (impl.Disk, string) {
	if parts := schemaLine.FindStringSubmatch(line); parts != nil {
		if s, ok := impl.ReadSchema(strings.Join(strings.Split(parts[2], ";"), "\n") + "\n"); ok {
			return actSaid(d, impl.Act{Kind: map[string]int64{"new": 1, "move": 6}[parts[1]], Schema: s, Power: -1})
		}
	}
	if parts := changeLine.FindStringSubmatch(line); parts != nil {
		if u, ok := impl.ReadTuple(parts[3]); ok {
			return changeSaid(d, impl.Change{Kind: map[string]int64{"add": 1, "drop": 2}[parts[2]], Tuple: u}, parts[1] != "")
		}
	}
	if parts := powerLine.FindStringSubmatch(line); parts != nil {
		power := int64(-1)
		if parts[2] != "" {
			power, _ = strconv.ParseInt(parts[2], 10, 64)
		}
		return actSaid(d, impl.Act{Kind: map[string]int64{"save": 3, "open": 4}[parts[1]], Power: power})
	}
	if parts := crashLine.FindStringSubmatch(line); parts != nil {
		k, _ := strconv.ParseInt(parts[1], 10, 64)
		n, _ := strconv.ParseInt(parts[2], 10, 64)
		return actSaid(d, impl.Act{Kind: 5, Keep: places(int(min(k, int64(len(d.Ops))))), Torn: n, Power: -1})
	}
	if parts := askLine.FindStringSubmatch(line); parts != nil {
		if u, ok := impl.ReadTuple(parts[2]); ok && u.Set == "" {
			return d, askSaid(d, parts[1], u)
		}
	}
	if parts := bareLine.FindStringSubmatch(line); parts != nil {
		return d, bareSaid(d, parts[1])
	}
	return d, "what"
}

func actSaid(d impl.Disk, a impl.Act) (impl.Disk, string) {
	next, code := actByWords(d, a)
	if code == 0 {
		return next, "ok"
	}
	return next, "no " + strconv.FormatInt(code, 10)
}

func changeSaid(d impl.Disk, c impl.Change, sync bool) (impl.Disk, string) {
	v, _ := viewByWords(d.Live)
	next, said := actSaid(d, impl.Act{Kind: 2, Change: c, Sync: sync, Power: -1})
	if code := codeByWords(v.schema, v.tuples, c); said == "ok" && code != 0 {
		said = "not " + strconv.FormatInt(code, 10)
	}
	return next, said
}

func askSaid(d impl.Disk, word string, u impl.Tuple) string {
	v, code := viewByWords(d.Live)
	if code != 0 {
		return "no " + strconv.FormatInt(code, 10)
	}
	a := askerOf(v.schema, v.tuples)
	found := a.inFoundOrder(v.schema)
	facts := slices.SortedFunc(slices.Values(found), byText)
	f := impl.Fact{Object: u.Object, Rel: u.Rel, User: u.Subject}
	there := slices.Index(found, f)
	said := word
	switch word {
	case "check":
		return map[bool]string{true: "yes", false: "not"}[there >= 0]
	case "users":
		for _, g := range facts {
			if g.Object == f.Object && g.Rel == f.Rel {
				said += " " + g.User.Type + ":" + g.User.Id
			}
		}
	case "objects":
		for _, g := range facts {
			if g.Object.Type == f.Object.Type && g.Rel == f.Rel && g.User == f.User {
				said += " " + g.Object.Type + ":" + g.Object.Id
			}
		}
	case "proof":
		if there < 0 {
			return "not"
		}
		said += " " + factsText(a.leftOut(found[:there+1], setOfFacts(found)))
	}
	return said
}

func bareSaid(d impl.Disk, word string) string {
	said := word
	if word == "files" {
		for _, f := range d.Live {
			said += " " + f.Name
		}
		return said
	}
	v, code := viewByWords(d.Live)
	if code != 0 {
		return "no " + strconv.FormatInt(code, 10)
	}
	said += " " + strconv.FormatInt(v.number, 10)
	for _, u := range v.tuples {
		said += " " + impl.TupleText(u)
	}
	return said
}
