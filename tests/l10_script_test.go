package tests

import (
	"strings"
	"testing"

	"loop.example/g00297/impl"
)

// The first lines of scripts: new and a schema on one line.
const (
	newSharing = "new type doc;banned = this(user);editor = this(user) | owner;owner = this(user);parent = this(doc);viewer = (this(user,group#member) | editor | parent->viewer) - banned;type group;member = this(user,group#member);type user"
	newSmall   = "new type doc;owner = this(user);viewer = this(user);type user"
)

// wantLines runs a script of lines, each of which comes with what it says ("" where that is nothing), and each beginning of it.
func wantLines(t *testing.T, what string, pairs ...string) {
	t.Helper()
	text, said := "", ""
	for i := 0; i < len(pairs); i += 2 {
		text += pairs[i] + "\n"
		if pairs[i+1] != "" {
			said += pairs[i+1] + "\n"
		}
		if got := impl.RunScript(text); got != said {
			t.Fatalf("%s: behind %q it says\n%s, not\n%s", what, pairs[i], got, said)
		}
	}
}

// wantWhat asks that each line is none of the table, on an empty disk and on one with a store, and changes nothing.
func wantWhat(t *testing.T, lines ...string) {
	t.Helper()
	for _, line := range lines {
		wantLines(t, "an empty disk", line, "what", "files", "files", newSmall, "ok")
		wantLines(t, "a store", newSmall, "ok", "add doc:a#viewer@user:x", "ok", line, "what", "tuples", "tuples 1 doc:a#viewer@user:x", "files", "files base log", "crash 0 0", "ok", "tuples", "tuples 0")
	}
}

func wantScript(t *testing.T, what string, text string, said string) {
	t.Helper()
	if got := impl.RunScript(text); got != said {
		t.Errorf("%s: %q, not %q", what, got, said)
	}
}

const tooLong = "too long\n"

func TestNumbersOfScripts(t *testing.T) {
	if impl.MaxScript != 40 || impl.MaxLines != 4000 {
		t.Error(impl.MaxScript, impl.MaxLines)
	}
}

func TestHowManyLines(t *testing.T) {
	wantScript(t, "no line", "", "")
	for _, c := range []struct{ line, said string }{{"files\n", "files\n"}, {"?\n", "what\n"}, {"\n", ""}, {"   \n", ""}, {"tuples\n", "no 7\n"}} {
		for _, n := range []int{1, 2, 39, 40} {
			wantScript(t, "many of "+c.line, strings.Repeat(c.line, n), strings.Repeat(c.said, n))
		}
		wantScript(t, "41 of "+c.line, strings.Repeat(c.line, 41), tooLong)
		wantScript(t, "1000 of "+c.line, strings.Repeat(c.line, 1000), tooLong)
	}
	wantScript(t, "lines of blanks among 40", strings.Repeat("\n", 20)+"files\n"+strings.Repeat("  \n", 19), "files\n")
	wantScript(t, "lines of blanks among 41", strings.Repeat("\n", 20)+"files\n"+strings.Repeat("  \n", 20), tooLong)
	wantScript(t, "40 lines of blanks ahead", strings.Repeat(" \n", 40)+"files\n", tooLong)
	wantScript(t, "39 lines of blanks ahead", strings.Repeat(" \n", 39)+"files\n", "files\n")
}

func TestHowManyBytesOfAScript(t *testing.T) {
	for _, c := range []struct{ what, begin, fill, end, said string }{
		{"one line", "", "x", "\n", "what\n"}, {"blanks", "", " ", "\n", ""}, {"blanks behind a word", "files", " ", "\n", "files\n"}, {"blanks ahead of a word", "", " ", "files\n", "files\n"}, {"blanks ahead of a change", "", " ", "add doc:a#viewer@user:x\n", "what\n"},
		{"blanks between", "save", " ", "1\n", "no 7\n"}, {"the last one of many", strings.Repeat("files\n", 39), "x", "\n", strings.Repeat("files\n", 39) + "what\n"},
		{"bytes that are no letters", "", "\xff", "\n", "what\n"}, {"a schema that is none", "new ", "x", "\n", "what\n"},
	} {
		fill := impl.MaxLines - len(c.begin) - len(c.end)
		wantScript(t, c.what, c.begin+strings.Repeat(c.fill, fill)+c.end, c.said)
		wantScript(t, c.what+", one less", c.begin+strings.Repeat(c.fill, fill-1)+c.end, c.said)
		wantScript(t, c.what+", one more", c.begin+strings.Repeat(c.fill, fill+1)+c.end, tooLong)
		wantScript(t, c.what+", many more", c.begin+strings.Repeat(c.fill, 90000)+c.end, tooLong)
	}
	wantScript(t, "letters of two bytes", strings.Repeat("\u00e4", 1999)+"x\n", "what\n")
	wantScript(t, "letters of two bytes, one more", strings.Repeat("\u00e4", 1999)+"xy\n", tooLong)
	full := strings.Repeat("files"+strings.Repeat(" ", 94)+"\n", 40)
	wantScript(t, "as many lines and bytes as there may be", full, strings.Repeat("files\n", 40))
	wantScript(t, "and one blank more", " "+full, tooLong)
}

func TestALastLineThatIsNotEnded(t *testing.T) {
	for _, last := range []string{"files", " ", "   ", "x", "\r", "\t", "\x00", newSmall, "too long"} {
		wantScript(t, "alone", last, tooLong)
		wantScript(t, "behind another one", "files\n"+last, tooLong)
		wantScript(t, "behind an empty one", "\n"+last, tooLong)
		wantScript(t, "behind 39", strings.Repeat("\n", 39)+last, tooLong)
		wantScript(t, "behind 40", strings.Repeat("\n", 40)+last, tooLong)
	}
	wantScript(t, "4000 bytes", strings.Repeat(" ", 4000), tooLong)
}

func TestLinesOfBlanks(t *testing.T) {
	wantLines(t, "blanks", "", "", " ", "", strings.Repeat(" ", 300), "", "files", "files", "", "", newSmall, "ok", "  ", "", "files", "files base", "   ", "")
	// Nothing else is a blank.
	wantWhat(t, "\t", " \t", "\r", "  \r", "\v", "\f", "\u00a0", "\x00", " \x00 ", "\u2003", "\x85")
}

func TestTheScriptOfASharedThing(t *testing.T) {
	wantLines(t, "sharing", newSharing, "ok",
		"add doc:a#owner@user:x", "ok", "add doc:b#parent@doc:a", "ok", "add group:g#member@user:y", "ok", "add doc:a#viewer@group:g#member", "ok",
		"check doc:b#viewer@user:y", "yes", "users doc:b#viewer@user:z", "users user:x user:y", "objects doc:z#viewer@user:y", "objects doc:a doc:b",
		"proof doc:b#viewer@user:y", "proof group:g#member@user:y doc:a#viewer@user:y doc:b#viewer@user:y",
		"sync add doc:a#banned@user:y", "ok", "check doc:b#viewer@user:y", "not", "check doc:a#banned@user:y", "yes",
		"tuples", "tuples 5 doc:a#banned@user:y doc:a#owner@user:x doc:a#viewer@group:g#member doc:b#parent@doc:a group:g#member@user:y",
		"drop doc:a#banned@user:y", "ok", "check doc:b#viewer@user:y", "yes", "files", "files base log",
		"crash 0 0", "ok", "check doc:b#viewer@user:y", "not", "save", "ok", "files", "files base",
		"drop doc:a#banned@user:y", "ok", "save", "ok", "crash 0 0", "ok", "check doc:b#viewer@user:y", "yes",
		"tuples", "tuples 6 doc:a#owner@user:x doc:a#viewer@group:g#member doc:b#parent@doc:a group:g#member@user:y")
}

func TestNewLines(t *testing.T) {
	wantLines(t, "twice", newSmall, "ok", newSmall, "no 3", "new type user", "no 3", "new x", "what", "new", "what", "tuples", "tuples 0", "check doc:a#owner@user:x", "not")
	wantLines(t, "one type", "new type user", "ok", "tuples", "tuples 0", "files", "files base", "add user:a#b@user:c", "not 3")
	wantLines(t, "behind others", "files", "files", "crash 1 1", "no 7", "open", "no 7", newSmall, "ok", "crash 0 0", "ok", "tuples", "tuples 0", newSmall, "no 3")
	wantLines(t, "names that are words", "new type new;add = this(new);drop = this(new#add);new = add;sync = this(type);tuples = new->add;type type", "what",
		"new type new;add = this(new);drop = this(new#add);new = add;sync = this(type);tuples = add->add;type type", "ok",
		"add new:add#add@new:drop", "ok", "add new:new#drop@new:add#add", "ok", "sync add new:add#sync@type:sync", "ok", "check new:new#drop@new:drop", "yes", "users new:add#sync@new:new", "users type:sync")
	wantLines(t, "type and tuples", "new type tuples;tuples = this(tuples#tuples,type);type = this(type);type type;tuples = this(type)", "ok",
		"add tuples:tuples#tuples@type:type", "ok", "add tuples:a#tuples@tuples:tuples#tuples", "ok", "add type:a#tuples@type:type", "ok", "save", "ok",
		"objects tuples:a#tuples@type:type", "objects tuples:a tuples:tuples", "tuples", "tuples 3 tuples:a#tuples@tuples:tuples#tuples tuples:tuples#tuples@type:type type:a#tuples@type:type")
	for n := 1; n <= 7; n++ {
		line := "new type na"
		for _, name := range names(n)[1:] {
			line += ";type " + name
		}
		if n <= impl.MaxTypes {
			wantLines(t, "many types", line, "ok")
		} else {
			wantLines(t, "too many types", line, "what")
		}
	}
}

// schemaLines are none of a schema, with new and with move.
var schemaLines = []string{
	"", " ", "  ", " ;", " ;;", " type", " type ", "  type user", " type user ", " type user;", " ;type user", " type user;;type zoo", " type user; type zoo", " type user ;type zoo", " type zoo;type user", " type user;type user",
	" type doc;viewer = this(user)", " type doc;viewer = this(user);type user;", " type doc;viewer =  this(user);type user", " type doc;viewer=this(user);type user", " type doc; viewer = this(user);type user", " viewer = this(user)",
	" type doc;viewer = this(user) - viewer;type user", " type Doc", " type this", " type user\t", " type user\r", " type user\\ntype zoo", " type user,type zoo", " TYPE user", " new type user", " type doc;viewer = none", " tuples", "\ttype user", ";type user", "type user",
}

func TestSchemasOfLines(t *testing.T) {
	for _, text := range schemaLines {
		wantWhat(t, "new"+text, "move"+text)
	}
}

func TestMoveLines(t *testing.T) {
	wantLines(t, "no base", "move type user", "no 7", "move x", "what", "files", "files")
	wantLines(t, "moves", newSmall, "ok", "move type user", "ok", "tuples", "tuples 1", "check doc:a#viewer@user:x", "not", "add doc:a#viewer@user:x", "not 3", "move type doc;viewer = this(user);type user", "ok", "tuples", "tuples 3",
		"add doc:a#viewer@user:x", "ok", "tuples", "tuples 4 doc:a#viewer@user:x", "files", "files base log",
		"move type doc;owner = this(user);type user", "no 8", "move type user", "no 8", "move type doc;viewer = this(doc);type user", "no 8", "tuples", "tuples 4 doc:a#viewer@user:x", "files", "files base log",
		"move type doc;owner = this(user) | viewer;viewer = this(user);type user", "ok", "files", "files base", "crash 0 0", "ok", "check doc:a#owner@user:x", "yes", "tuples", "tuples 5 doc:a#viewer@user:x",
		"drop doc:a#viewer@user:x", "ok", "move type doc;owner = this(user) | viewer;viewer = this(user);type user", "ok", "tuples", "tuples 7", "move type user", "ok", "tuples", "tuples 8")
}

func TestChangeLines(t *testing.T) {
	for _, ahead := range []string{"", "sync "} {
		wantLines(t, "no base", ahead+"add doc:a#viewer@user:x", "no 7", ahead+"drop doc:a#viewer@user:x", "no 7", "files", "files")
		wantLines(t, "changes", newSmall, "ok", ahead+"add doc:a#viewer@user:x", "ok", ahead+"add doc:a#owner@user:x", "ok", "tuples", "tuples 2 doc:a#owner@user:x doc:a#viewer@user:x",
			ahead+"add doc:a#viewer@user:x", "not 4", ahead+"add doc:a#viewer@doc:x", "not 3", ahead+"add doc:a#viewer@user:x#owner", "not 3", ahead+"add zoo:a#viewer@user:x", "not 3", ahead+"drop doc:a#viewer@user:y", "not 5", ahead+"drop zoo:a#viewer@user:x", "not 5",
			"tuples", "tuples 8 doc:a#owner@user:x doc:a#viewer@user:x", ahead+"drop doc:a#viewer@user:x", "ok", ahead+"drop doc:a#viewer@user:x", "not 5", ahead+"add doc:a#viewer@user:x", "ok", "tuples", "tuples 11 doc:a#owner@user:x doc:a#viewer@user:x")
	}
	wantLines(t, "synced and not", newSmall, "ok", "add doc:a#viewer@user:x", "ok", "sync add doc:a#viewer@user:y", "ok", "add doc:a#viewer@user:z", "ok", "crash 0 0", "ok", "tuples", "tuples 2 doc:a#viewer@user:x doc:a#viewer@user:y",
		"drop doc:a#viewer@user:x", "ok", "sync add doc:b#viewer@doc:b", "not 3", "drop doc:a#viewer@user:y", "ok", "crash 0 0", "ok", "tuples", "tuples 4 doc:a#viewer@user:y")
	// As many as a script can add: no line is left for one that would be too many.
	pairs := []string{newSmall, "ok"}
	for _, u := range numbered(38) {
		pairs = append(pairs, "add "+impl.TupleText(u), "ok")
	}
	wantLines(t, "38 tuples", append(pairs, "tuples", "tuples 38 "+tuplesText(numbered(38)))...)
}

func TestChangesOfLines(t *testing.T) {
	for _, word := range []string{"add", "drop", "sync add", "sync drop"} {
		wantWhat(t, word, word+" ", word+"  ", word+"  doc:a#viewer@user:y", word+" doc:a#viewer@user:y ", word+" doc:a#viewer@user:y  ", word+" doc:a#viewer@user:y doc:a#viewer@user:z", word+" doc:a#viewer", word+" doc:a#viewer@user:y#", word+" doc:a#viewer@user:Y", word+" doc:a#this@user:y",
			word+"\tdoc:a#viewer@user:y", word+" doc:a#viewer@user:y\r", word+" doc:a#viewer@user:y\t", word+" \tdoc:a#viewer@user:y", word+"doc:a#viewer@user:y", word+" add doc:a#viewer@user:y", word+" doc:a #viewer@user:y", word+" \xff", word+" doc:a#viewer@user:\u00e4", word+" doc:a#viewer@user:y\x00")
	}
	wantWhat(t, "sync", "sync ", "sync  ", "sync  add doc:a#viewer@user:y", "sync add doc:a#viewer@user:y ", "sync doc:a#viewer@user:y", "sync sync add doc:a#viewer@user:y", "sync save", "sync 1", "sync Add doc:a#viewer@user:y", "sync new type user", "syncadd doc:a#viewer@user:y")
}

func TestWordsOfLines(t *testing.T) {
	wantWhat(t, "fly", "Add doc:a#viewer@user:y", "ADD doc:a#viewer@user:y", "Drop doc:a#viewer@user:x", "New type user", "Move type user", "Sync add doc:a#viewer@user:y", "Save", "Open", "Crash 0 0", "Check doc:a#viewer@user:x", "Users doc:a#viewer@user:x", "Objects doc:a#viewer@user:x", "Proof doc:a#viewer@user:x", "Tuples", "Files",
		"adds doc:a#viewer@user:y", "ad doc:a#viewer@user:y", "remove doc:a#viewer@user:x", "what", "ok", "too long", "this", "tuple", "file", "filesfiles", "saves", "sav", "save1", "open1", "crash00", "not", "yes", "0", "#", "save;open", "save,", "\xff\xfe", "save\xff", "f\u00efles", "files\x00", "files\r", "tuples\r", "save\t", "save\t1", "crash\t0\t0", "check\tdoc:a#viewer@user:x")
}

// The rows ahead of save are told by what stands behind the one blank, so no blank stands ahead of their words.
func TestBlanksAheadOfExactLines(t *testing.T) {
	for _, line := range []string{"new type doc", "move type user", "add doc:a#viewer@user:y", "drop doc:a#viewer@user:x", "sync add doc:a#viewer@user:y", "sync drop doc:a#viewer@user:x", "new", "move", "add", "drop", "sync", "fly", "x "} {
		wantWhat(t, " "+line, "  "+line, strings.Repeat(" ", 90)+line, " "+line+" ")
	}
}

// From save on words are parted by blanks, at both ends too.
func TestBlanksAtBothEnds(t *testing.T) {
	const tuple = "doc:a#viewer@user:x"
	begin := []string{newSmall, "ok", "add " + tuple, "ok"}
	for _, ahead := range []string{"", " ", "  ", strings.Repeat(" ", 70)} {
		for _, behind := range []string{"", " ", "   "} {
			around := func(line string) string { return ahead + line + behind }
			wantLines(t, "an empty disk", around("files"), "files", around("tuples"), "no 7", around("save"), "no 7", around("save 1"), "no 7", around("open"), "no 7", around("open  1"), "no 7", around("crash 1 2"), "no 7",
				around("check "+tuple), "no 7", around("users "+tuple), "no 7", around("objects  "+tuple), "no 7", around("proof "+tuple), "no 7", around("files"), "files")
			wantLines(t, "asked", append(begin, around("tuples"), "tuples 1 "+tuple, around("files"), "files base log", around("check "+tuple), "yes", around("check doc:b#viewer@user:x"), "not",
				around("users "+tuple), "users user:x", around("objects   "+tuple), "objects doc:a", around("proof "+tuple), "proof "+tuple, around("proof doc:b#viewer@user:x"), "not")...)
			wantLines(t, "saved", append(begin, around("save 0"), "no 5", around("save  2"), "no 5", "files", "files base base.new log", around("open 0"), "ok", around("open"), "ok", around("save"), "ok", "files", "files base", around("crash 0 0"), "ok", "tuples", "tuples 1 "+tuple)...)
			wantLines(t, "crashed", append(begin, around("crash  0   0"), "ok", "tuples", "tuples 0")...)
		}
	}
}

// With blanks ahead, too, what is none of the table is none.
func TestBlanksAheadOfWrongLines(t *testing.T) {
	const tuple = "doc:a#viewer@user:x"
	wantWhat(t, " save x", " save 1 1", " save 01", " save1", " open -1", "  open 1 2", " crash", " crash 0", " crash 0 0 0", " crash 00 0", " check", " check x", " check "+tuple+"#viewer", " check "+tuple+" "+tuple, " users", " users doc:a#viewer", " objects", " objects x", " proof", "  proof "+tuple+" x",
		" tuples 0", " files x", " files files", " Files", " file s", " s ave", " \tfiles", "\t files", "\tfiles", " \rfiles", " files\r", "\u00a0files", " \x00files", " what", " ok", " save add "+tuple, " files add "+tuple, " add", " save;", " "+tuple)
}

func TestSaveAndOpenLines(t *testing.T) {
	for _, word := range []string{"save", "open"} {
		for _, rest := range []string{"", " ", "    ", " 0", " 1", " 6", " 9999999999", "  7", " 7 ", "   7   ", " 10", " 1000000000", " 1000000001", " 4294967296"} {
			wantLines(t, "no base", word+rest, "no 7", "files", "files")
		}
		for _, rest := range []string{"", " ", "    ", " 6", "  7", " 7 ", "   7   ", " 10", " 9999999999", " 1000000000", " 1000000001", " 4294967296"} {
			wantLines(t, "power enough", newSmall, "ok", "add doc:a#viewer@user:x", "ok", word+rest, "ok", "tuples", "tuples 1 doc:a#viewer@user:x")
		}
		for _, rest := range []string{" 00", " 01", " 07", " 0000000007", " 10000000000", " 99999999999", " 18446744073709551615", " 9223372036854775808", " -1", " +1", " -0", " 1.0", " 1e1", " 0x1", " 1_0", " one", " 1 1", " 1  1", " 1 x", " x 1", " 0 0 0", " 1,", " 1\r", " \t1", " 1\t", " \xff", " \u0661", " ;"} {
			wantWhat(t, word+rest)
		}
	}
}

// Each step of a save: Sync, DkAppend, DkRename, Sync, DkRemove of the log, Sync.
func TestPowerOfASave(t *testing.T) {
	const files, tuples = "files base log", "tuples 1 doc:a#viewer@user:x"
	for _, c := range []struct{ power, said, files, lost string }{
		{"0", "no 5", files, "tuples 0"}, {"1", "no 5", files, tuples}, {"2", "no 5", "files base base.new log", tuples}, {"3", "no 5", files, tuples}, {"4", "no 5", files, tuples}, {"5", "no 5", "files base", tuples}, {"6", "ok", "files base", tuples}, {"7", "ok", "files base", tuples},
	} {
		wantLines(t, "power "+c.power, newSmall, "ok", "add doc:a#viewer@user:x", "ok", "save "+c.power, c.said, "files", c.files, "tuples", tuples, "open "+c.power, "ok", "files", c.files, "crash 0 0", "ok", "tuples", c.lost)
	}
	wantLines(t, "without a log", newSmall, "ok", "save 0", "no 5", "save 1", "no 5", "save 2", "no 5", "files", "files base base.new", "save 5", "no 5", "save 2", "no 5", "save 6", "ok", "files", "files base", "save 3", "no 5", "save 4", "ok")
	// Where a base.new lies it is removed first, and that is synced.
	wantLines(t, "with a base.new", newSmall, "ok", "add doc:a#viewer@user:x", "ok", "save 2", "no 5", "save 1", "no 5", "files", "files base base.new log", "save 2", "no 5", "files", "files base log", "save 2", "no 5", "files", "files base base.new log", "save 7", "no 5", "files", "files base", "save 4", "ok")
}

func TestCrashLines(t *testing.T) {
	wantLines(t, "no base", "crash 0 0", "no 7", "crash 3 9999999999", "no 7", "files", "files")
	begin := []string{newSmall, "ok", "add doc:a#viewer@user:x", "ok", "add doc:a#viewer@user:y", "ok", "add doc:a#viewer@user:z", "ok"}
	const none, one, two, all = "tuples 0", "tuples 1 doc:a#viewer@user:x", "tuples 2 doc:a#viewer@user:x doc:a#viewer@user:y", "tuples 3 doc:a#viewer@user:x doc:a#viewer@user:y doc:a#viewer@user:z"
	// A frame here has 8 bytes ahead, then a number, a byte 10 and add doc:a#viewer@user:x, 33 in all; a torn one is not good, so the store is saved then.
	for _, c := range []struct{ line, tuples, files string }{
		{"crash 0 0", none, "base"}, {"crash 0 1", none, "base"}, {"crash 0 9999999999", none, "base"},
		{"crash 1 33", one, "base log"}, {"crash 1 34", one, "base log"}, {"crash 1 32", none, "base"}, {"crash 1 1", none, "base"}, {"crash 1 0", none, "base log"},
		{"crash 2 33", two, "base log"}, {"crash 2 32", one, "base"}, {"crash 2 0", one, "base log"}, {"crash 2 9999999999", two, "base log"},
		{"crash 3 33", all, "base log"}, {"crash 3 8", two, "base"}, {"crash 3 0", two, "base log"},
		{"crash 4 33", all, "base log"}, {"crash 4 8", two, "base"}, {"crash 200 100", all, "base log"}, {"crash 9999999999 9999999999", all, "base log"}, {"crash 9999999999 0", two, "base log"},
		{"crash   2   0", one, "base log"}, {"crash 2 0  ", one, "base log"},
	} {
		wantLines(t, c.line, append(begin, c.line, "ok", "tuples", c.tuples, "files", "files "+c.files, "crash 0 0", "ok", "tuples", c.tuples, "add doc:b#viewer@user:x", "ok")...)
	}
	wantWhat(t, "crash", "crash ", "crash 0", "crash 1 ", "crash 0 0 0", "crash 1 1 1 1", "crash 00 0", "crash 0 00", "crash 01 1", "crash 1 01", "crash -1 0", "crash 0 -1", "crash x 0", "crash 0 x", "crash 10000000000 0", "crash 0 10000000000", "crash 0,0", "crash 0 0\r", "crash 0\t0", "crash + 0")
}

// The ops of a save that lost its power are kept from the first on.
func TestCrashesOfASave(t *testing.T) {
	const tuples = "tuples 1 doc:a#viewer@user:x"
	begin := []string{newSmall, "ok", "add doc:a#viewer@user:x", "ok", "save 3", "no 5", "files", "files base log"}
	for _, c := range []struct{ line, files string }{
		{"crash 0 0", "base log"}, {"crash 1 0", "base base.new log"}, {"crash 1 5", "base base.new log"}, {"crash 1 9999", "base base.new log"}, {"crash 2 0", "base log"}, {"crash 2 9999", "base log"}, {"crash 3 9999", "base log"},
	} {
		wantLines(t, c.line, append(begin, c.line, "ok", "tuples", tuples, "files", "files "+c.files, "save", "ok", "tuples", tuples, "files", "files base")...)
	}
	// The change is behind the rename: it counts where all three are kept.
	more := append(begin, "add doc:a#viewer@user:y", "ok")
	for _, c := range []struct{ line, tuples, files string }{
		{"crash 2 9999", tuples, "base log"}, {"crash 3 9999", "tuples 2 doc:a#viewer@user:x doc:a#viewer@user:y", "base log"}, {"crash 3 20", tuples, "base"},
	} {
		wantLines(t, c.line, append(more, c.line, "ok", "tuples", c.tuples, "files", "files "+c.files)...)
	}
}

func TestAskingLines(t *testing.T) {
	const tuple = "doc:a#viewer@user:x"
	for _, word := range []string{"check", "users", "objects", "proof"} {
		wantLines(t, "no base", word+" "+tuple, "no 7", word+"   "+tuple+"  ", "no 7", word+" "+tuple+"#member", "what", word+" x", "what")
		wantWhat(t, word, word+" ", word+"  ", word+" x", word+" doc:a", word+" doc:a#viewer", word+" doc:a#viewer@", word+" "+tuple+"#", word+" "+tuple+"#viewer", word+" "+tuple+"#member", word+" "+tuple+" "+tuple, word+" "+tuple+" x", word+" x "+tuple, word+" add "+tuple, word+" doc:a #viewer@user:x", word+" doc:a#this@user:x", word+" doc:A#viewer@user:x", word+" "+tuple+"\r", word+" \t"+tuple, word+tuple, word+" 1", word+" doc:a#viewer@user:\xff")
	}
	begin := []string{newSharing, "ok", "add doc:b#parent@doc:a", "ok", "add doc:a#owner@user:y", "ok", "add doc:a#viewer@user:x", "ok", "add doc:c#banned@user:x", "ok", "add doc:c#parent@doc:b", "ok"}
	wantLines(t, "check", append(begin, "check doc:a#viewer@user:x", "yes", "check doc:c#viewer@user:y", "yes", "check doc:c#viewer@user:x", "not", "check doc:a#owner@user:x", "not", "check doc:z#viewer@user:x", "not", "check zoo:a#viewer@user:x", "not", "check doc:a#none@user:x", "not", "check doc:c#parent@doc:b", "yes", "check   doc:b#viewer@user:x  ", "yes", "check doc:c#parent@doc:a", "not")...)
	wantLines(t, "users", append(begin, "users doc:a#viewer@user:x", "users user:x user:y", "users doc:c#viewer@user:none", "users user:y", "users doc:b#parent@zoo:a", "users doc:a", "users doc:z#viewer@user:x", "users", "users doc:a#none@user:x", "users", "users zoo:a#viewer@user:x", "users", "users  doc:c#banned@doc:a ", "users user:x")...)
	wantLines(t, "objects", append(begin, "objects doc:a#viewer@user:x", "objects doc:a doc:b", "objects doc:none#viewer@user:y", "objects doc:a doc:b doc:c", "objects doc:a#parent@doc:a", "objects doc:b", "objects group:a#viewer@user:x", "objects", "objects doc:a#viewer@user:z", "objects", "objects doc:a#none@user:x", "objects", "objects  doc:z#owner@user:y ", "objects doc:a")...)
	wantLines(t, "proof", append(begin, "proof doc:a#viewer@user:x", "proof doc:a#viewer@user:x", "proof doc:c#viewer@user:y", "proof doc:a#owner@user:y doc:a#editor@user:y doc:a#viewer@user:y doc:b#viewer@user:y doc:c#viewer@user:y", "proof doc:c#viewer@user:x", "not", "proof doc:z#viewer@user:x", "not", "proof zoo:a#viewer@user:x", "not", "proof doc:a#none@user:x", "not", "proof  doc:c#banned@user:x ", "proof doc:c#banned@user:x")...)
}

func TestTuplesAndFilesLines(t *testing.T) {
	wantLines(t, "an empty disk", "tuples", "no 7", "files", "files", "tuples   ", "no 7", "files   ", "files")
	wantLines(t, "a store", newSmall, "ok", "tuples", "tuples 0", "files", "files base", "add doc:b#viewer@user:x", "ok", "add doc:a#viewer@user:x", "ok", "add doc:a#viewer@user:x", "not 4", "tuples", "tuples 3 doc:a#viewer@user:x doc:b#viewer@user:x", "tuples  ", "tuples 3 doc:a#viewer@user:x doc:b#viewer@user:x", "files", "files base log", "files ", "files base log", "save 2", "no 5", "files", "files base base.new log")
	for _, word := range []string{"tuples", "files"} {
		wantWhat(t, word+" x", word+" 0", word+" 1", word+"  x ", word+" "+word, word+" doc:a", word+" doc:a#viewer@user:x", word+" base", word+" \t", word+" \r", word+";", word+" \x00")
	}
}

// A change that is logged and refused comes to the number; one that is not logged does not.
func TestRefusedAndNotLogged(t *testing.T) {
	wantLines(t, "not and no", "add doc:a#viewer@user:x", "no 7", "drop doc:a#viewer@user:x", "no 7", "sync drop doc:a#viewer@user:x", "no 7", newSmall, "ok", "tuples", "tuples 0",
		"drop doc:a#viewer@user:x", "not 5", "tuples", "tuples 1", "sync add doc:a#viewer@doc:x", "not 3", "tuples", "tuples 2", "add doc:a#viewer@user:x", "ok", "sync add doc:a#viewer@user:x", "not 4", "tuples", "tuples 4 doc:a#viewer@user:x",
		"files", "files base log", "crash 0 0", "ok", "tuples", "tuples 4 doc:a#viewer@user:x", "move type user", "no 8", "tuples", "tuples 4 doc:a#viewer@user:x")
}
