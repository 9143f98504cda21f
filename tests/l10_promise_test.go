package tests

import (
	"math/rand"
	"slices"
	"strconv"
	"strings"
	"testing"

	"loop.example/g00297/impl"
)

// What the document promises of scripts, asked of many of them.

// scriptMaker makes random lines, most of which are of the table.
type scriptMaker struct{ r *rand.Rand }

func (m scriptMaker) one(list ...string) string { return list[m.r.Intn(len(list))] }

// schema answers a schema on one line; tuples of one fit another one at times.
func (m scriptMaker) schema() string {
	return m.one("type user", "type doc;viewer = this(user);type user", strings.TrimPrefix(newSmall, "new "), strings.TrimPrefix(newSharing, "new "), strings.TrimPrefix(newSharing, "new "),
		"type doc;owner = this(user);parent = this(doc);viewer = this(user) | owner | parent->viewer;type user", "type doc;parent = this(doc);viewer = this(user) - parent->viewer;type user", "type doc;owner = this(user,doc#viewer) & viewer;viewer = this(user) | owner;type user")
}

// tuple answers one of few, so that lines meet, and that fit most schemas; of facts it has no Set.
func (m scriptMaker) tuple(fact bool) string {
	doc := m.one("doc:a", "doc:a", "doc:b", "doc:c")
	switch m.r.Intn(12) {
	case 0:
		return m.one("doc:a", "group:g", "zoo:z") + "#" + m.one("viewer", "parent", "member", "none") + "@" + m.one("user:x", "doc:a", "group:g")
	case 1, 2:
		return doc + "#parent@" + m.one("doc:a", "doc:b")
	case 3:
		return "group:g#member@" + m.one("user:x", "user:y")
	case 4:
		if !fact {
			return m.one(doc+"#viewer@group:g#member", doc+"#owner@doc:a#viewer", "group:h#member@group:g#member")
		}
	}
	return doc + "#" + m.one("viewer", "viewer", "viewer", "owner", "owner", "editor", "banned") + "@" + m.one("user:x", "user:x", "user:y")
}

func (m scriptMaker) number() string {
	return m.one("0", "1", "2", "3", "4", "5", "6", "7", "8", strconv.Itoa(m.r.Intn(60)), "9999999999")
}

func (m scriptMaker) asking() string {
	switch m.r.Intn(6) {
	case 0:
		return "tuples"
	case 1:
		return "files"
	}
	return m.one("check ", "users ", "objects ", "proof ") + m.tuple(true)
}

func (m scriptMaker) line() string {
	switch m.r.Intn(16) {
	case 0:
		return m.one("new ", "move ", "move ") + m.schema()
	case 1, 2, 3, 4:
		return m.one("add ", "add ", "add ", "drop ") + m.tuple(false)
	case 5, 6:
		return "sync " + m.one("add ", "add ", "add ", "drop ") + m.tuple(false)
	case 7:
		return m.one("save", "open", "save "+m.number(), "save "+m.number(), "open "+m.number())
	case 8:
		return "crash " + m.number() + " " + m.number()
	case 9:
		return m.one("", "  ", "fly", "check x", "add", "users "+m.tuple(true)+"#viewer")
	}
	return m.asking()
}

// bent answers the line with some byte put in, taken out or changed.
func (m scriptMaker) bent(line string) string {
	at := m.r.Intn(len(line) + 1)
	switch m.r.Intn(6) {
	case 0:
		return line + m.one(" ", "  ", "\r", "\t", " x", " 1", "#member", ";")
	case 1:
		return m.one(" ", "  ", "\t", "x", "sync ") + line
	case 2:
		return line[:at]
	case 3:
		return line[:at] + m.one(" ", "0", "\xff", ";", "#", "A") + line[at:]
	case 4:
		return strings.Replace(line, " ", m.one("  ", "\t", "   ", "", " 0"), 1)
	}
	return strings.Replace(line, line[at:min(at+1, len(line))], m.one(" ", "1", "z", "\x00"), 1)
}

// blanksAround answers the line with blanks at one end or at both.
func (m scriptMaker) blanksAround(line string) string {
	return m.one("", " ", "  ", "    ") + line + m.one("", " ", "   ")
}

// lines answers so many, with a schema ahead most times.
func (m scriptMaker) lines(n int) []string {
	var list []string
	for i := range n {
		line := m.line()
		if i == 0 && m.r.Intn(10) > 0 {
			line = "new " + m.schema()
		}
		switch m.r.Intn(12) {
		case 0:
			line = m.bent(line)
		case 1:
			line = m.blanksAround(line)
		}
		list = append(list, line)
	}
	return list
}

func scriptOf(lines []string) string {
	text := ""
	for _, line := range lines {
		text += line + "\n"
	}
	return text
}

func TestManyScripts(t *testing.T) {
	m := scriptMaker{rand.New(rand.NewSource(101))}
	count := map[string]int{}
	for range 2500 {
		text := scriptOf(m.lines(m.r.Intn(42)))
		if m.r.Intn(30) == 0 {
			text += m.one("files", " ", "x")
		}
		want := scriptByWords(text)
		if got := impl.RunScript(text); got != want {
			t.Fatalf("%q says\n%s, not\n%s", text, got, want)
		}
		for _, line := range strings.Split(want, "\n") {
			word, rest, _ := strings.Cut(line, " ")
			if word == "no" || word == "not" {
				word = line
			} else if rest != "" && word != "too" {
				word += " .."
			}
			count[word]++
		}
	}
	for _, said := range []string{"ok", "no 3", "no 5", "no 7", "no 8", "not 3", "not 4", "not 5", "yes", "not", "users", "users ..", "objects", "objects ..", "proof ..", "tuples ..", "files", "files ..", "what", "too"} {
		if count[said] < 20 {
			t.Error("too few of", said, count)
		}
		delete(count, said)
	}
	// A script starts with an empty disk, so there is no broken base and no log that is not good.
	delete(count, "")
	if len(count) > 0 {
		t.Error("said, too", count)
	}
}

// Single lines, each bent at several places, behind a few that make a store.
func TestManyLinesThatAreBent(t *testing.T) {
	m := scriptMaker{rand.New(rand.NewSource(102))}
	begin := newSharing + "\nsync add doc:a#owner@user:x\nadd doc:b#parent@doc:a\n"
	end := "\ntuples\nfiles\ncrash 0 0\ntuples\nfiles\n"
	what := 0
	for range 6000 {
		line := m.line()
		for range 1 + m.r.Intn(2) {
			line = m.bent(line)
		}
		text := begin + line + end
		want := scriptByWords(text)
		if got := impl.RunScript(text); got != want {
			t.Fatalf("%q says\n%s, not\n%s", line, got, want)
		}
		if strings.Contains(want, "what\n") {
			what++
		}
	}
	if what < 2000 || what > 5500 {
		t.Error("too many or too few of a sort", what)
	}
}

func TestWhatAScriptSaidStaysSaid(t *testing.T) {
	m := scriptMaker{rand.New(rand.NewSource(103))}
	for range 100 {
		lines := m.lines(impl.MaxScript)
		long := 0
		for long < len(lines) && len(scriptOf(lines[:long+1])) <= impl.MaxLines {
			long++
		}
		whole := impl.RunScript(scriptOf(lines[:long]))
		if whole == tooLong {
			t.Fatal("too long")
		}
		ahead := ""
		for n := range long + 1 {
			said := impl.RunScript(scriptOf(lines[:n]))
			if !strings.HasPrefix(whole, said) || !strings.HasPrefix(said, ahead) {
				t.Fatalf("%d lines say\n%s, and all of them\n%s", n, said, whole)
			}
			// Each line says one, or none where it is of blanks.
			says := 0
			if n > 0 && strings.Trim(lines[n-1], " ") != "" {
				says = 1
			}
			if strings.Count(said, "\n") != strings.Count(ahead, "\n")+says || said != "" && !strings.HasSuffix(said, "\n") {
				t.Fatalf("behind %q it says\n%s, and ahead of it\n%s", lines[n-1], said, ahead)
			}
			ahead = said
		}
	}
}

func TestLinesThatAskChangeNothing(t *testing.T) {
	m := scriptMaker{rand.New(rand.NewSource(104))}
	asked := 0
	for range 1500 {
		own := m.lines(1 + m.r.Intn(14))
		var lines []string
		var isOwn []bool
		for _, line := range own {
			for range m.r.Intn(3) {
				lines = append(lines, m.asking())
				isOwn = append(isOwn, false)
			}
			lines = append(lines, line)
			isOwn = append(isOwn, true)
		}
		text := scriptOf(lines)
		if len(lines) > impl.MaxScript || len(text) > impl.MaxLines {
			continue
		}
		var kept []string
		said := strings.Split(impl.RunScript(text), "\n")
		for i, line := range lines {
			if strings.Trim(line, " ") == "" {
				continue
			}
			if isOwn[i] {
				kept = append(kept, said[0])
			}
			said = said[1:]
		}
		if want := impl.RunScript(scriptOf(own)); scriptOf(kept) != want {
			t.Fatalf("%q says\n%s, not\n%s, with lines that ask between", own, scriptOf(kept), want)
		}
		asked += len(lines) - len(own)
	}
	if asked < 5000 {
		t.Error("too few lines that ask", asked)
	}
}

func TestTheSameScriptTwice(t *testing.T) {
	m := scriptMaker{rand.New(rand.NewSource(105))}
	var texts, said []string
	for range 150 {
		texts = append(texts, scriptOf(m.lines(m.r.Intn(30))))
		said = append(said, impl.RunScript(texts[len(texts)-1]))
	}
	// Nothing is left of one script in another one, in whatever order they run.
	for i, text := range slices.Backward(texts) {
		if got := impl.RunScript(text); got != said[i] {
			t.Fatalf("%q says\n%s, and said\n%s", text, got, said[i])
		}
	}
}

// Bytes of any kind are answered, and as the words say.
func TestOddScriptsAreAnswered(t *testing.T) {
	m := scriptMaker{rand.New(rand.NewSource(106))}
	for range 3000 {
		text := scriptOf(m.lines(1 + m.r.Intn(8)))
		bytes := []byte(text)
		for range m.r.Intn(6) {
			bytes[m.r.Intn(len(bytes))] = byte(m.r.Intn(256))
		}
		if m.r.Intn(4) > 0 {
			bytes[len(bytes)-1] = '\n'
		}
		if got, want := impl.RunScript(string(bytes)), scriptByWords(string(bytes)); got != want {
			t.Fatalf("%q says\n%s, not\n%s", bytes, got, want)
		}
	}
}
