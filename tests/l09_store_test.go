package tests

import (
	"fmt"
	"math"
	"slices"
	"strings"
	"testing"

	"loop.example/g00297/impl"
)

// plain has a relation less than sharing has, and small and less ever fewer.
const (
	plain = "type doc\nowner = this(user)\nviewer = this(user,group#member)\ntype group\nmember = this(user)\ntype user\n"
	small = "type doc\nowner = this(user)\nviewer = this(user)\ntype user\n"
	less  = "type doc\nviewer = this(user)\ntype user\n"
)

// base answers a base's text: a number, a schema's text, the word tuples, and tuples that are parted by blanks.
func base(number string, schema string, tuples string) string {
	text := number + "\n" + schema + "tuples\n"
	for _, u := range strings.Fields(tuples) {
		text += u + "\n"
	}
	return text
}

// logged reads frames of a log, parted by commas: a number, a blank, and a change's text.
func logged(texts string) string {
	log := ""
	for _, text := range strings.Split(texts, ", ") {
		if text != "" {
			log += frame(strings.Replace(text, " ", "\n", 1))
		}
	}
	return log
}

// syncedFiles answers a synced disk; files come as name, data, name, data.
func syncedFiles(t *testing.T, pairs ...string) impl.Disk {
	t.Helper()
	var files []impl.File
	for i := 0; i < len(pairs); i += 2 {
		files = append(files, impl.File{Name: pairs[i], Data: pairs[i+1]})
	}
	return diskOf(t, files)
}

func storeWith(t *testing.T, base string, log string) impl.Disk {
	t.Helper()
	if log == "" {
		return syncedFiles(t, "base", frame(base))
	}
	return syncedFiles(t, "base", frame(base), "log", log)
}

// wantView asks for this code, and for what is there when it is StOk.
func wantView(t *testing.T, what string, d impl.Disk, code int64, schema string, tuples string, number int64) {
	t.Helper()
	s, l, n, told := impl.StoreView(d)
	if told != code || impl.SchemaText(s) != schema || tuplesText(l) != tuples || n != number {
		t.Errorf("%s: %d, not %d; %d, not %d; %s, not %s; and\n%s, not\n%s", what, told, code, n, number, tuplesText(l), tuples, impl.SchemaText(s), schema)
	}
	wantApart(t, what, d, s, l)
}

func wantBroken(t *testing.T, what string, d impl.Disk) {
	t.Helper()
	wantView(t, what, d, impl.StBad, "", "", 0)
	for kind := int64(impl.AcLog); kind <= impl.AcMove; kind++ {
		wantAct(t, what, d, impl.Act{Kind: kind, Power: -1}, impl.StBad, d)
	}
	wantAct(t, what, d, impl.Act{Kind: impl.AcNew, Power: -1}, impl.StForm, d)
}

// wantAct asks for this code and this disk.
func wantAct(t *testing.T, what string, d impl.Disk, a impl.Act, code int64, want impl.Disk) {
	t.Helper()
	got, told := impl.StoreDo(d, a)
	if told != code || !sameDisk(got, want) {
		t.Errorf("%s: act %d with power %d tells %d, not %d, and leaves %s and %d ops, not %s and %d", what, a.Kind, a.Power, told, code, shortFiles(got.Live), len(got.Ops), shortFiles(want.Live), len(want.Ops))
	}
	if told != impl.StDisk && !impl.DiskOk(got) {
		t.Errorf("%s: act %d leaves a disk that is not right", what, a.Kind)
	}
	wantApart(t, what, d, a.Schema, a.Keep, got)
}

// wantSteps asks that the act makes these steps from start on: as many as its power goes, and all of them with enough; where one is refused start is left.
func wantSteps(t *testing.T, what string, d impl.Disk, start impl.Disk, a impl.Act, steps ...impl.DOp) {
	t.Helper()
	for power := range int64(len(steps)) + 3 {
		a.Power = power
		want, code := poweredByWords(start, steps, power)
		wantAct(t, what, d, a, code, want)
	}
	want, code := poweredByWords(start, steps, -1)
	for _, power := range []int64{-1, -2, math.MinInt64, math.MaxInt64} {
		a.Power = power
		wantAct(t, what, d, a, code, want)
	}
}

func TestNumbersOfStores(t *testing.T) {
	if !same([]int64{0, 1, 2, 3, 4, 5, 6, 7, 8}, []int64{impl.StOk, impl.StDisk, impl.StBad, impl.StForm, impl.StFull, impl.StPower, impl.StTorn, impl.StNone, impl.StRefuse}) {
		t.Error("codes")
	}
	if !same([]int64{1, 2, 3, 4, 5, 6}, []int64{impl.AcNew, impl.AcLog, impl.AcSave, impl.AcOpen, impl.AcCrash, impl.AcMove}) {
		t.Error("acts")
	}
}

func TestBases(t *testing.T) {
	const tuples = "doc:a#owner@user:y doc:a#viewer@user:x doc:a#viewer@user:y"
	for _, c := range []struct {
		what, number, schema, tuples string
		want                         int64
	}{
		{"ordinary", "3", small, tuples, 3}, {"no tuples", "0", small, "", 0}, {"many digits", "123456789", small, tuples, 123456789},
		{"10 to the 9", "1000000000", small, tuples, 1000000000}, {"one less", "999999999", small, tuples, 999999999}, {"no types", "0", "", "", 0}, {"no types, a number", "7", "", "", 7},
		{"one type", "0", "type user\n", "", 0}, {"most tuples", "40", sharing, tuplesText(numbered(40)), 40},
		// Types and relations whose names are words.
		{"words", "1", "type tuples\nadd = this(tuples)\ntuples = this(tuples#tuples,type)\ntype = this(type#tuples)\ntype type\ntuples = this(type)\n", "tuples:tuples#tuples@tuples:tuples#tuples tuples:tuples#tuples@type:type tuples:tuples#type@type:0#tuples", 1},
		{"the word alone", "1", "type tuples\n", "", 1}, {"the word as the last relation", "1", "type a\ntuples = this(a)\n", "a:x#tuples@a:y", 1},
	} {
		wantView(t, c.what, storeWith(t, base(c.number, c.schema, c.tuples), ""), impl.StOk, c.schema, c.tuples, c.want)
		// An empty log, and files that are none of the store's.
		wantView(t, c.what, syncedFiles(t, "BASE", "?", "base", frame(base(c.number, c.schema, c.tuples)), "base.new", "?", "log", "", "log.new", "?"), impl.StOk, c.schema, c.tuples, c.want)
	}
	wantView(t, "the greatest schema", storeWith(t, base("1", impl.SchemaText(greatSchema()), ""), ""), impl.StOk, impl.SchemaText(greatSchema()), "", 1)
}

func TestBrokenBases(t *testing.T) {
	const tuple = "doc:a#viewer@user:x"
	right := base("1", less, tuple)
	for what, file := range map[string]string{
		"an empty file": "", "a letter": "?", "no frame": right, "a nought": "\x00", "two frames": frame(right) + frame(right), "an empty frame behind": frame(right) + frame(""), "an empty frame ahead": frame("") + frame(right), "a byte behind": frame(right) + "\n", "a nought behind": frame(right) + "\x00", "half a frame behind": frame(right) + frame(right)[:20],
		"cut": frame(right)[:len(frame(right))-1], "the head alone": frame(right)[:8], "another sum": frame(right)[:4] + "\x00\x00\x00\x00" + right, "another length": "\x00\x00\x00\x01" + frame(right)[4:], "a byte changed": strings.Replace(frame(right), "user:x", "user:y", 1), "an empty frame": frame(""),
	} {
		wantBroken(t, what, syncedFiles(t, "base", file))
	}
	for what, number := range map[string]string{
		"no number": "", "noughts": "00", "a nought ahead": "01", "many noughts ahead": "0000000001", "below nought": "-1", "a sign": "+1", "nought with a sign": "-0", "a blank ahead": " 1", "a blank behind": "1 ", "10 to the 9 and one": "1000000001", "ten digits": "9999999999", "11 digits": "10000000000", "a long one": strings.Repeat("1", 400), "wraps to one": "18446744073709551617", "hexadecimal": "0x1", "parted": "1_0", "a letter": "a", "a fraction": "1.0", "great": "1e3", "a tuple": tuple, "the word": "tuples", "a digit that is none": "١", "ended twice": "1\r",
	} {
		wantBroken(t, what, storeWith(t, base(number, less, tuple), ""))
	}
	for what, text := range map[string]string{
		"the number alone": "1", "the number's line alone": "1\n", "no number's line": less + "tuples\n", "no tuples": "1\n" + less, "no tuples, of no types": "1\n", "the word not ended": "1\n" + less + "tuples", "a tuple not ended": strings.TrimSuffix(right, "\n"), "a line behind": right + "\n", "a line ahead": "\n" + right, "an empty line in the middle": base("1", less+"\n", tuple), "an empty line ahead of tuples": base("1", less, "") + "\n" + tuple + "\n", "a blank behind the word": "1\n" + less + "tuples \n", "a blank ahead of the word": "1\n" + less + " tuples\n", "another word": "1\n" + less + "tuple\n", "the word twice": base("1", less, "tuples "+tuple), "the word at the end": base("1", less, tuple+" tuples"), "the word ahead of the schema": "1\ntuples\n" + less, "the word ahead of the number": "tuples\n1\n" + less, "ended otherwise": strings.ReplaceAll(right, "\n", "\r\n"), "a nought behind": right + "\x00",
		"two numbers": "1\n" + right, "the schema twice": "1\n" + less + less + "tuples\n", "a type not ended": "1\ntype usertuples\n", "the schema's last line not ended": "1\n" + strings.TrimSuffix(less, "\n") + "tuples\n",
		"types fall": base("1", "type user\ntype doc\nviewer = this(user)\n", ""), "no such type": base("1", "type doc\nviewer = this(user)\n", ""), "it takes itself away": base("1", "type doc\nviewer = this(user) - viewer\ntype user\n", ""), "a relation of no type": base("1", "viewer = this(user)\n", ""), "no expression": base("1", "type doc\nviewer = \ntype user\n", ""),
		"tuples fall": base("1", less, "doc:b#viewer@user:x doc:a#viewer@user:x"), "a tuple twice": base("1", less, tuple+" "+tuple), "no tuple": base("1", less, "doc:a"), "a tuple with a blank": base("1", less, tuple) + " \n", "a tuple that does not fit": base("1", less, "doc:a#owner@user:x"), "another subject": base("1", less, "doc:a#viewer@doc:x"), "a set": base("1", less, "doc:a#viewer@user:x#viewer"), "one of two does not fit": base("1", less, "doc:a#owner@user:x "+tuple), "a tuple of no types": base("1", "", tuple), "41 tuples": base("41", sharing, tuplesText(numbered(41))), "a change": base("1", less, "") + "add " + tuple + "\n",
	} {
		wantBroken(t, what, storeWith(t, text, ""))
		wantBroken(t, what+", and a log", storeWith(t, text, logged("1 add "+tuple)))
	}
}

func TestNoBase(t *testing.T) {
	const tuple = "doc:a#viewer@user:x"
	for _, d := range []impl.Disk{
		{}, syncedFiles(t, "log", logged("1 add "+tuple)), syncedFiles(t, "base.new", frame(base("0", less, ""))), syncedFiles(t, "BASE", frame(base("0", less, ""))), syncedFiles(t, "Base", "", "bas", "", "based", ""),
		// It would be left after a loss of power, but is not seen.
		diskOf(t, []impl.File{{Name: "base", Data: frame(base("0", less, ""))}}, remove("base")),
	} {
		wantView(t, "no base", d, impl.StNone, "", "", 0)
		for kind := int64(impl.AcLog); kind <= impl.AcMove; kind++ {
			if kind != impl.AcCrash {
				wantAct(t, "no base", d, impl.Act{Kind: kind, Power: -1, Schema: schemaOf(t, less), Change: changeOf(t, "add "+tuple)}, impl.StNone, d)
				// No base is told ahead of all that is wrong with the act.
				wantAct(t, "no base", d, impl.Act{Kind: kind, Power: 0, Schema: wrongSchemas()["types fall"]}, impl.StNone, d)
			}
		}
	}
}

// logCase is a log of the frames, and of the bytes behind them; good tells whether all of it counts.
type logCase struct {
	what, frames, behind string
	number               int64
	tuples               string
	good                 bool
}

func TestLogs(t *testing.T) {
	const (
		x = "doc:a#viewer@user:x"
		y = "doc:a#viewer@user:y"
		z = "doc:a#viewer@user:z"
		w = "doc:b#viewer@user:x"
	)
	all := []logCase{
		{"none", "", "", 2, x, true},
		{"one that comes next", "3 add " + y, "", 3, x + " " + y, true},
		{"one that drops", "3 drop " + x, "", 3, "", true},
		{"some", "3 add " + y + ", 4 drop " + x + ", 5 add " + w, "", 5, y + " " + w, true},
		{"passed over", "1 add " + y + ", 2 drop " + x, "", 2, x, true},
		{"passed over, then next", "1 add " + y + ", 2 drop " + x + ", 3 add " + z, "", 3, x + " " + z, true},
		{"nought is passed over", "0 add " + y, "", 2, x, true},
		{"passed over in any order", "2 add " + y + ", 1 add " + z + ", 0 add " + w + ", 2 drop " + x, "", 2, x, true},
		{"the same number again is passed over", "3 add " + y + ", 3 add " + z + ", 4 add " + w, "", 4, x + " " + y + " " + w, true},
		{"an older number later is passed over", "3 add " + y + ", 4 add " + z + ", 2 drop " + x + ", 3 drop " + y + ", 5 add " + w, "", 5, x + " " + y + " " + z + " " + w, true},
		{"a later number", "4 add " + y, "", 2, x, false},
		{"a later number, and what comes next behind it", "4 add " + y + ", 3 add " + z, "", 2, x, false},
		{"a hole", "3 add " + y + ", 5 add " + z + ", 4 add " + w, "", 3, x + " " + y, false},
		{"a far number", "3 add " + y + ", 1000000000 add " + z, "", 3, x + " " + y, false},
		{"a number that is none", "3 add " + y + ", 1000000001 add " + z, "", 3, x + " " + y, false},
		{"a number with a nought ahead", "03 add " + y, "", 2, x, false},
		{"a number with a sign", "+3 add " + y, "", 2, x, false},
		{"a number below nought", "-1 add " + y, "", 2, x, false},
		{"an old number with a nought ahead", "01 add " + y + ", 3 add " + z, "", 2, x, false},
		// Refused are: one that is there, does not fit, is not there. They count all the same.
		{"there", "3 add " + x, "", 3, x, true}, {"does not fit", "3 add doc:a#owner@user:x", "", 3, x, true}, {"not there", "3 drop " + y, "", 3, x, true}, {"no such type", "3 add team:a#viewer@user:x", "", 3, x, true}, {"a set", "3 add " + x + "#viewer", "", 3, x, true},
		{"refused, and others behind them", "3 add " + x + ", 4 drop " + y + ", 5 add doc:a#viewer@doc:a, 6 add " + y, "", 6, x + " " + y, true},
		// Frames of another form.
		{"another word", "3 fly " + y, "", 2, x, false}, {"two blanks", "3 add  " + y, "", 2, x, false}, {"nothing behind the blank", "3 add ", "", 2, x, false}, {"no change", "3 ", "", 2, x, false}, {"no number", " add " + y, "", 2, x, false}, {"a wrong tuple", "3 add doc:A#viewer@user:x", "", 2, x, false}, {"a blank behind", "3 add " + y + " ", "", 2, x, false}, {"a line's end behind", "3 add " + y + "\n", "", 2, x, false}, {"two changes", "3 add " + y + "\nadd " + z, "", 2, x, false},
		{"the old one has another form", "1 fly " + y + ", 3 add " + z, "", 2, x, false}, {"the old one is none", "2 , 3 add " + z, "", 2, x, false},
		{"another form behind one that counts", "3 add " + y + ", 4 fly " + z + ", 4 add " + z, "", 3, x + " " + y, false},
		// Bytes behind the frames.
		{"a byte", "", "?", 2, x, false}, {"a nought", "", "\x00", 2, x, false}, {"an empty frame", "", frame(""), 2, x, false}, {"a byte behind one", "3 add " + y, "\n", 3, x + " " + y, false}, {"a cut frame", "3 add " + y, logged("4 add " + z)[:20], 3, x + " " + y, false}, {"a head alone", "3 add " + y, logged("4 add " + z)[:8], 3, x + " " + y, false}, {"a frame without its last byte", "3 add " + y, strings.TrimSuffix(logged("4 add "+z), "z"), 3, x + " " + y, false},
		{"another sum, and a whole frame behind it", "3 add " + y, strings.Replace(logged("4 add "+z), "user:z", "user:x", 1) + logged("4 add "+z), 3, x + " " + y, false}, {"another length", "3 add " + y, "\x00\x00\x00\x01" + logged("4 add " + z)[4:], 3, x + " " + y, false}, {"a byte, and a whole frame", "3 add " + y, "?" + logged("4 add "+z), 3, x + " " + y, false}, {"no line's end", "3 add " + y, frame("4 add " + z), 3, x + " " + y, false}, {"a byte behind one that is passed over", "1 add " + y, "?", 2, x, false},
	}
	for _, c := range all {
		d := storeWith(t, base("2", less, x), logged(c.frames)+c.behind)
		wantView(t, c.what, d, impl.StOk, less, c.tuples, c.number)
		next := impl.Act{Kind: impl.AcLog, Change: changeOf(t, "drop doc:z#viewer@user:z")}
		if !c.good {
			for _, power := range []int64{-1, 0, 1} {
				wantAct(t, c.what, d, impl.Act{Kind: impl.AcLog, Change: next.Change, Power: power}, impl.StTorn, d)
				wantAct(t, c.what, d, impl.Act{Kind: impl.AcSave, Power: power}, impl.StTorn, d)
				wantAct(t, c.what, d, impl.Act{Kind: impl.AcMove, Schema: schemaOf(t, less), Power: power}, impl.StTorn, d)
			}
			wantSteps(t, c.what, d, d, impl.Act{Kind: impl.AcOpen}, sync, put("base.new", frame(base(fmt.Sprint(c.number), less, c.tuples))), rename("base.new", "base"), sync, remove("log"), sync)
			continue
		}
		wantSteps(t, c.what, d, d, next, put("log", logged(fmt.Sprint(c.number+1, " drop doc:z#viewer@user:z"))))
		wantSteps(t, c.what, d, d, impl.Act{Kind: impl.AcOpen})
	}
	full := storeWith(t, base("40", sharing, tuplesText(numbered(40))), logged("41 add doc:000#owner@user:x, 42 drop doc:039#viewer@user:ann, 43 add doc:000#owner@user:x"))
	wantView(t, "full, and one less", full, impl.StOk, sharing, "doc:000#owner@user:x "+tuplesText(numbered(39)), 43)
	// Words as names do not lead astray.
	const words = "type tuples\nadd = this(tuples)\ntype = this(tuples)\n"
	wantView(t, "words", storeWith(t, base("0", words, ""), logged("1 add tuples:add#add@tuples:drop, 2 add tuples:add#type@tuples:add, 3 drop tuples:add#add@tuples:drop")), impl.StOk, words, "tuples:add#type@tuples:add", 3)
	wantView(t, "no types", storeWith(t, base("0", "", ""), logged("1 add "+x+", 2 drop "+x)), impl.StOk, "", "", 2)
}

func TestGreatestNumber(t *testing.T) {
	const most = 1000000000
	add, s := changeOf(t, "add doc:a#viewer@user:x"), schemaOf(t, less)
	last := storeWith(t, base("999999999", less, ""), "")
	wantSteps(t, "logged up to it", last, last, impl.Act{Kind: impl.AcLog, Change: add}, put("log", logged("1000000000 add doc:a#viewer@user:x")))
	wantSteps(t, "moved up to it", last, last, impl.Act{Kind: impl.AcMove, Schema: s}, sync, put("base.new", frame(base("1000000000", less, ""))), rename("base.new", "base"), sync)
	for what, d := range map[string]impl.Disk{
		"in the base": storeWith(t, base("1000000000", less, ""), ""),
		"in the log":  storeWith(t, base("999999998", less, ""), logged("999999999 drop doc:a#viewer@user:x, 1000000000 drop doc:a#viewer@user:x")),
	} {
		wantView(t, what, d, impl.StOk, less, "", most)
		for _, power := range []int64{-1, 0, 1} {
			wantAct(t, what, d, impl.Act{Kind: impl.AcLog, Change: add, Power: power}, impl.StForm, d)
			wantAct(t, what, d, impl.Act{Kind: impl.AcMove, Schema: s, Power: power}, impl.StForm, d)
		}
		if _, code := impl.StoreDo(d, impl.Act{Kind: impl.AcSave, Power: -1}); code != impl.StOk {
			t.Error(what, "is not saved", code)
		}
	}
	// That there is no next number is told ahead of a log that is not good, and of tuples that do not fit.
	torn := storeWith(t, base("1000000000", less, "doc:a#viewer@user:x"), "?")
	wantAct(t, "torn too", torn, impl.Act{Kind: impl.AcLog, Change: add, Power: -1}, impl.StForm, torn)
	wantAct(t, "torn too", torn, impl.Act{Kind: impl.AcMove, Schema: schemaOf(t, "type user\n"), Power: -1}, impl.StForm, torn)
	wantAct(t, "torn", torn, impl.Act{Kind: impl.AcSave, Power: -1}, impl.StTorn, torn)
	// A log that passes it over is good; a number above it is none.
	over := storeWith(t, base("1000000000", less, ""), logged("1000000000 add doc:a#viewer@user:x"))
	wantView(t, "passed over", over, impl.StOk, less, "", most)
	wantSteps(t, "passed over", over, over, impl.Act{Kind: impl.AcOpen})
	above := storeWith(t, base("1000000000", less, ""), logged("1000000001 add doc:a#viewer@user:x"))
	wantView(t, "above it", above, impl.StOk, less, "", most)
	wantSteps(t, "above it", above, above, impl.Act{Kind: impl.AcOpen}, sync, put("base.new", frame(base("1000000000", less, ""))), rename("base.new", "base"), sync, remove("log"), sync)
}

func TestStepsOfNew(t *testing.T) {
	for _, text := range []string{sharing, less, "type user\n", ""} {
		a := impl.Act{Kind: impl.AcNew, Schema: schemaOf(t, text)}
		saved := []impl.DOp{sync, put("base.new", frame(base("0", text, ""))), rename("base.new", "base"), sync}
		wantSteps(t, "an empty disk", impl.Disk{}, impl.Disk{}, a, saved...)
		d := syncedFiles(t, "a", "1", "base.new", "2", "log", "3", "z", "4")
		wantSteps(t, "a disk with files", d, d, a, append([]impl.DOp{remove("a"), remove("base.new"), remove("log"), remove("z")}, saved...)...)
		d = diskOf(t, filesOf("base=1 z=2"), opsOf(t, "remove base, put b 3, rename z a")...)
		wantSteps(t, "a disk that is not synced", d, d, a, append([]impl.DOp{remove("a"), remove("b")}, saved...)...)
	}
	full := diskOf(t, manyFiles(60, ""))
	steps := []impl.DOp{}
	for _, f := range full.Live {
		steps = append(steps, remove(f.Name))
	}
	steps = append(steps, sync, put("base.new", frame(base("0", less, ""))), rename("base.new", "base"), sync)
	wantSteps(t, "60 files", full, full, impl.Act{Kind: impl.AcNew, Schema: schemaOf(t, less)}, steps...)
	// Files go without a Sync, so there must be room for their ops.
	for _, n := range []int{139, 140, 141, 199, 200} {
		var ops []impl.DOp
		for range n {
			ops = append(ops, put("f000", ""))
		}
		d := diskOf(t, manyFiles(60, ""), ops...)
		wantSteps(t, fmt.Sprint(n, " ops"), d, d, impl.Act{Kind: impl.AcNew, Schema: schemaOf(t, less)}, steps...)
	}
	for what, s := range wrongSchemas() {
		s = copySchema(s)
		wantAct(t, what, full, impl.Act{Kind: impl.AcNew, Schema: s, Power: -1}, impl.StForm, full)
		wantAct(t, what, impl.Disk{}, impl.Act{Kind: impl.AcNew, Schema: s}, impl.StForm, impl.Disk{})
	}
	for _, file := range []string{frame(base("0", less, "")), "", "?"} {
		d := syncedFiles(t, "base", file)
		for _, power := range []int64{-1, 0} {
			wantAct(t, "a base", d, impl.Act{Kind: impl.AcNew, Schema: schemaOf(t, less), Power: power}, impl.StForm, d)
			wantAct(t, "a base", d, impl.Act{Kind: impl.AcNew, Schema: wrongSchemas()["types fall"], Power: power}, impl.StForm, d)
		}
	}
}

func TestStepsOfLog(t *testing.T) {
	d := storeWith(t, base("9", less, ""), "")
	for _, text := range []string{"add doc:a#viewer@user:x", "drop doc:a#viewer@user:x", "add team:a#owner@team:b#owner"} {
		a := impl.Act{Kind: impl.AcLog, Change: changeOf(t, text)}
		step := put("log", logged("10 "+text))
		wantSteps(t, text, d, d, a, step)
		a.Sync = true
		wantSteps(t, text+", synced", d, d, a, step, sync)
		// What an act of another kind names says nothing here.
		a.Schema, a.Keep, a.Torn = wrongSchemas()["types fall"], []int64{9, -1}, -5
		wantSteps(t, text+", and more", d, d, a, step, sync)
	}
	behind, code := impl.StorePlay(d, []impl.Act{{Kind: impl.AcLog, Change: changeOf(t, "add doc:a#viewer@user:x"), Power: -1}, {Kind: impl.AcLog, Change: changeOf(t, "add doc:a#viewer@user:x"), Power: -1}})
	if !same(code, []int64{0, 0}) {
		t.Fatal(code)
	}
	wantView(t, "one twice", behind, impl.StOk, less, "doc:a#viewer@user:x", 11)
	wantSteps(t, "a third one", behind, behind, impl.Act{Kind: impl.AcLog, Change: changeOf(t, "drop doc:a#viewer@user:x")}, put("log", logged("12 drop doc:a#viewer@user:x")))
	right := tupleOf(t, "doc:a#viewer@user:x")
	for _, kind := range []int64{0, 3, -1, 257, math.MaxInt64, math.MinInt64} {
		wantAct(t, "no kind", d, impl.Act{Kind: impl.AcLog, Change: impl.Change{Kind: kind, Tuple: right}, Power: -1}, impl.StForm, d)
	}
	for _, wrong := range wrongTuples(right) {
		wantAct(t, fmt.Sprint(wrong), d, impl.Act{Kind: impl.AcLog, Change: impl.Change{Kind: impl.ChAdd, Tuple: wrong}, Power: -1}, impl.StForm, d)
	}
	torn := storeWith(t, base("9", less, ""), "?")
	wantAct(t, "no change, and torn", torn, impl.Act{Kind: impl.AcLog}, impl.StForm, torn)
	broken := syncedFiles(t, "base", "?", "log", "?")
	wantAct(t, "no change, torn and broken", broken, impl.Act{Kind: impl.AcLog}, impl.StBad, broken)
}

func TestStepsOfSave(t *testing.T) {
	const x, y = "doc:a#viewer@user:x", "doc:a#viewer@user:y"
	a := impl.Act{Kind: impl.AcSave}
	d := storeWith(t, base("1", less, x), "")
	wantSteps(t, "no log", d, d, a, sync, put("base.new", frame(base("1", less, x))), rename("base.new", "base"), sync)
	d = storeWith(t, base("1", less, x), logged("2 add "+y+", 3 add "+y))
	saved := []impl.DOp{put("base.new", frame(base("3", less, x+" "+y))), rename("base.new", "base"), sync, remove("log"), sync}
	wantSteps(t, "a log", d, d, a, append([]impl.DOp{sync}, saved...)...)
	d = syncedFiles(t, "base", frame(base("1", less, x)), "base.new", "?", "log", logged("2 add "+y+", 3 add "+y), "z", "1")
	wantSteps(t, "a base.new", d, d, a, append([]impl.DOp{sync, remove("base.new"), sync}, saved...)...)
	d = syncedFiles(t, "base", frame(base("1", less, x)), "base.new", "", "log", "")
	wantSteps(t, "both empty", d, d, a, sync, remove("base.new"), sync, put("base.new", frame(base("1", less, x))), rename("base.new", "base"), sync, remove("log"), sync)
	d = diskOf(t, []impl.File{{Name: "base", Data: frame(base("1", less, x))}}, put("log", logged("2 add "+y)), put("log", logged("3 add "+y)))
	wantSteps(t, "not synced", d, d, a, append([]impl.DOp{sync}, saved...)...)
	d = diskOf(t, []impl.File{{Name: "base", Data: frame(base("3", less, x+" "+y))}, {Name: "base.new", Data: "?"}, {Name: "log", Data: logged("3 add " + y)}}, remove("log"), remove("base.new"))
	wantSteps(t, "log and base.new gone, but not synced", d, d, a, sync, put("base.new", frame(base("3", less, x+" "+y))), rename("base.new", "base"), sync)
	d = storeWith(t, base("0", "", ""), "")
	wantSteps(t, "no types", d, d, a, sync, put("base.new", frame(base("0", "", ""))), rename("base.new", "base"), sync)
}

func TestStepsOfOpen(t *testing.T) {
	a := impl.Act{Kind: impl.AcOpen, Schema: wrongSchemas()["types fall"], Keep: []int64{3}, Torn: -1}
	d := syncedFiles(t, "base", frame(base("0", less, "")), "base.new", "?", "log", logged("1 add doc:a#viewer@user:x"))
	// A good log stays as it is, whatever lies beside it.
	wantSteps(t, "good", d, d, a)
	d = diskOf(t, d.Live, put("log", logged("2 add doc:a#viewer@user:y")))
	wantSteps(t, "good, not synced", d, d, a)
	d = diskOf(t, d.Live, put("log", "?"))
	wantSteps(t, "torn", d, d, a, sync, remove("base.new"), sync, put("base.new", frame(base("2", less, "doc:a#viewer@user:x doc:a#viewer@user:y"))), rename("base.new", "base"), sync, remove("log"), sync)
}

func TestStepsOfMove(t *testing.T) {
	const x, y, o = "doc:a#viewer@user:x", "doc:a#viewer@user:y", "doc:a#owner@user:x"
	d := storeWith(t, base("1", small, x), logged("2 add "+y))
	for _, text := range []string{sharing, plain, small, less} {
		wantSteps(t, text, d, d, impl.Act{Kind: impl.AcMove, Schema: schemaOf(t, text)}, sync, put("base.new", frame(base("3", text, x+" "+y))), rename("base.new", "base"), sync, remove("log"), sync)
	}
	with := storeWith(t, base("1", small, x), logged("2 add "+o))
	wantSteps(t, "fits", with, with, impl.Act{Kind: impl.AcMove, Schema: schemaOf(t, plain)}, sync, put("base.new", frame(base("3", plain, o+" "+x))), rename("base.new", "base"), sync, remove("log"), sync)
	for what, text := range map[string]string{"no such relation": less, "no types": "", "no such type": "type user\n", "other subjects": "type doc\nowner = this(doc)\nviewer = this(user)\ntype user\n", "no tuples tell of it": "type doc\nowner = viewer\nviewer = this(user)\ntype user\n"} {
		for _, power := range []int64{-1, 0, 1, 9} {
			wantAct(t, what, with, impl.Act{Kind: impl.AcMove, Schema: schemaOf(t, text), Power: power}, impl.StRefuse, with)
		}
	}
	// Tuples that are there no more need not fit.
	gone := storeWith(t, base("1", small, o), logged("2 drop "+o))
	wantSteps(t, "gone", gone, gone, impl.Act{Kind: impl.AcMove, Schema: nil}, sync, put("base.new", frame(base("3", "", ""))), rename("base.new", "base"), sync, remove("log"), sync)
	for what, s := range wrongSchemas() {
		s = copySchema(s)
		wantAct(t, what, d, impl.Act{Kind: impl.AcMove, Schema: s, Power: -1}, impl.StForm, d)
	}
	// Two refusals would do for each of these.
	torn := storeWith(t, base("1", small, o), "?")
	wantAct(t, "no schema, and torn", torn, impl.Act{Kind: impl.AcMove, Schema: wrongSchemas()["types fall"]}, impl.StForm, torn)
	wantAct(t, "torn, and does not fit", torn, impl.Act{Kind: impl.AcMove, Schema: schemaOf(t, less)}, impl.StTorn, torn)
	wantAct(t, "no schema, and does not fit", with, impl.Act{Kind: impl.AcMove, Schema: onDocs(relation("viewer", rel("none")))}, impl.StForm, with)
	broken := syncedFiles(t, "base", "?", "log", "?")
	wantAct(t, "no schema, and broken", broken, impl.Act{Kind: impl.AcMove, Schema: wrongSchemas()["types fall"]}, impl.StBad, broken)
	// Moved behind a base.new that lies there.
	lies := syncedFiles(t, "base", frame(base("1", small, x)), "base.new", frame(base("7", less, "")))
	wantSteps(t, "a base.new", lies, lies, impl.Act{Kind: impl.AcMove, Schema: schemaOf(t, less)}, sync, remove("base.new"), sync, put("base.new", frame(base("2", less, x))), rename("base.new", "base"), sync)
}

func TestActsOfNoKind(t *testing.T) {
	good, broken := storeWith(t, base("1", less, ""), ""), syncedFiles(t, "base", "?")
	for _, kind := range []int64{0, 7, 8, -1, -5, 257, 1<<32 + 1, math.MaxInt64, math.MinInt64} {
		for _, d := range []impl.Disk{{}, good, broken, syncedFiles(t, "log", "?")} {
			for _, power := range []int64{-1, 0, 5} {
				wantAct(t, fmt.Sprint("kind ", kind), d, impl.Act{Kind: kind, Power: power, Schema: schemaOf(t, less), Change: changeOf(t, "add doc:a#viewer@user:x")}, impl.StForm, d)
			}
		}
	}
}

func TestStoresOnWrongDisks(t *testing.T) {
	wrong := wrongDisks()
	// One on which all would be well.
	well := storeWith(t, base("1", less, ""), "")
	wrong["a store, seen otherwise"] = impl.Disk{Live: slices.Clone(well.Live)}
	wrong["a store, and an op that is not seen"] = impl.Disk{Live: slices.Clone(well.Live), Safe: slices.Clone(well.Safe), Ops: opsOf(t, "put log 1")}
	for what, d := range wrong {
		wantView(t, what, d, impl.StDisk, "", "", 0)
		for kind := int64(-1); kind <= 8; kind++ {
			for _, power := range []int64{-1, 0, 5} {
				wantAct(t, what, d, impl.Act{Kind: kind, Power: power, Schema: schemaOf(t, less), Change: changeOf(t, "add doc:a#viewer@user:x")}, impl.StDisk, impl.Disk{})
				wantAct(t, what, d, impl.Act{Kind: kind, Power: power, Schema: wrongSchemas()["types fall"], Keep: []int64{-1}, Torn: -1}, impl.StDisk, impl.Disk{})
			}
		}
		for _, list := range [][]impl.Act{nil, {{Kind: impl.AcOpen}}, {{Kind: impl.AcNew, Schema: schemaOf(t, less), Power: -1}, {Kind: 9}}} {
			if left, codes := impl.StorePlay(d, list); !zeroDisk(left) || len(codes) > 0 {
				t.Errorf("%s: %d acts leave %s and tell %v", what, len(list), shortFiles(left.Live), codes)
			}
		}
	}
}

func TestStepsThatAFullDiskRefuses(t *testing.T) {
	const x = "doc:a#viewer@user:x"
	add := impl.Act{Kind: impl.AcLog, Change: changeOf(t, "add "+x)}
	file := frame(base("0", less, ""))
	step := put("log", logged("1 add "+x))
	for _, n := range []int{199, 200} {
		d := diskOf(t, []impl.File{{Name: "base", Data: file}}, manyOps(n)...)
		wantSteps(t, fmt.Sprint("log with ops ", n), d, d, add, step)
		synced := add
		synced.Sync = true
		wantSteps(t, fmt.Sprint("log and sync with ops ", n), d, d, synced, step, sync)
		// A save begins with a Sync, so ops never stand in its way.
		wantSteps(t, fmt.Sprint("save with ops ", n), d, d, impl.Act{Kind: impl.AcSave}, sync, put("base.new", file), rename("base.new", "base"), sync)
	}
	files := diskOf(t, append([]impl.File{{Name: "base", Data: file}}, manyFiles(59, "")...))
	wantSteps(t, "log with 60 files", files, files, add, step)
	wantSteps(t, "save with 60 files", files, files, impl.Act{Kind: impl.AcSave}, sync, put("base.new", file))
	wantSteps(t, "move with 60 files", files, files, impl.Act{Kind: impl.AcMove, Schema: schemaOf(t, small)}, sync, put("base.new", frame(base("1", small, ""))))
	lies := diskOf(t, append([]impl.File{{Name: "base", Data: file}, {Name: "base.new"}}, manyFiles(58, "")...))
	wantSteps(t, "save with 60 files, base.new among them", lies, lies, impl.Act{Kind: impl.AcSave}, sync, remove("base.new"), sync, put("base.new", file), rename("base.new", "base"), sync)
	// Bytes: just enough, and one too few.
	for more := range 2 {
		room := bytesLong(impl.MaxBytes - 2*len(file) + more)
		d := syncedFiles(t, "base", file, "z", room)
		wantSteps(t, "save of a full disk", d, d, impl.Act{Kind: impl.AcSave}, sync, put("base.new", file), rename("base.new", "base"), sync)
		room = bytesLong(impl.MaxBytes - len(file) - len(step.Data) + more)
		d = syncedFiles(t, "base", file, "z", room)
		wantSteps(t, "log on a full disk", d, d, add, step)
		room = bytesLong(impl.MaxBytes - 2*len(file) - 1 + more)
		d = syncedFiles(t, "base", file, "log", "?", "z", room)
		wantSteps(t, "open of a full disk", d, d, impl.Act{Kind: impl.AcOpen}, sync, put("base.new", file), rename("base.new", "base"), sync, remove("log"), sync)
		ops := diskOf(t, []impl.File{{Name: "base", Data: file}, {Name: "z", Data: room}}, put("log", "?"))
		left := syncedFiles(t, "base", file, "log", "?", "z", room)
		wantSteps(t, "crash of a full disk", ops, left, impl.Act{Kind: impl.AcCrash, Keep: []int64{0}, Torn: 1}, sync, put("base.new", file), rename("base.new", "base"), sync, remove("log"), sync)
	}
}

func TestCrashAndOpen(t *testing.T) {
	const x, y = "doc:a#viewer@user:x", "doc:a#viewer@user:y"
	one, two := logged("1 add "+x), logged("2 add "+y)
	file := frame(base("0", less, ""))
	d := diskOf(t, []impl.File{{Name: "base", Data: file}}, put("log", one), put("log", two))
	crash := func(torn int64, keep ...int64) impl.Act {
		return impl.Act{Kind: impl.AcCrash, Keep: keep, Torn: torn, Power: -1}
	}
	wantSteps(t, "none kept", d, syncedFiles(t, "base", file), crash(0))
	wantSteps(t, "all kept", d, syncedFiles(t, "base", file, "log", one+two), crash(1000, 0, 1))
	wantSteps(t, "the first one kept", d, syncedFiles(t, "base", file, "log", one), crash(1000, 0))
	wantSteps(t, "nothing of the first one kept", d, syncedFiles(t, "base", file, "log", ""), crash(0, 0))
	wantSteps(t, "nothing of the second one kept", d, syncedFiles(t, "base", file, "log", one), crash(0, 0, 1))
	saved := func(text string) []impl.DOp {
		return []impl.DOp{sync, put("base.new", frame(text)), rename("base.new", "base"), sync, remove("log"), sync}
	}
	wantSteps(t, "the second one alone", d, syncedFiles(t, "base", file, "log", two), crash(1000, 1), saved(base("0", less, ""))...)
	for torn := 1; torn < len(one); torn++ {
		wantSteps(t, "the first one torn", d, syncedFiles(t, "base", file, "log", one[:torn]), crash(int64(torn), 0), saved(base("0", less, ""))...)
		wantSteps(t, "the second one torn", d, syncedFiles(t, "base", file, "log", one+two[:torn]), crash(int64(torn), 0, 1), saved(base("1", less, x))...)
	}
	for _, a := range []impl.Act{crash(-1), crash(-1, 0), crash(9, 1, 0), crash(9, 0, 0), crash(9, 2), crash(9, -1), crash(9, 0, 1, 2), crash(math.MinInt64)} {
		for _, power := range []int64{-1, 0, 3} {
			a.Power = power
			wantAct(t, fmt.Sprint(a.Keep, a.Torn), d, a, impl.StForm, d)
		}
	}
	// What is wrong with the base is asked of what is left, and not of what was there.
	none := diskOf(t, filesOf("z=1"), put("base", file))
	wantSteps(t, "a base that comes to be lost", none, syncedFiles(t, "base", file, "z", "1"), crash(1000, 0))
	wantAct(t, "a base that is lost", none, crash(0), impl.StNone, syncedFiles(t, "z", "1"))
	wantAct(t, "a base of which nothing is left", none, crash(0, 0), impl.StBad, syncedFiles(t, "base", "", "z", "1"))
	wantAct(t, "a base that is torn", none, crash(9, 0), impl.StBad, syncedFiles(t, "base", file[:9], "z", "1"))
	back := diskOf(t, []impl.File{{Name: "base", Data: file}}, remove("base"))
	wantAct(t, "gone for good", back, crash(0, 0), impl.StNone, impl.Disk{})
	wantSteps(t, "not gone after all", back, syncedFiles(t, "base", file), crash(0))
	mended := diskOf(t, filesOf("base=?"), remove("base"), put("base", file))
	wantSteps(t, "mended", mended, syncedFiles(t, "base", file), crash(1000, 0, 1))
	wantAct(t, "not mended after all", mended, crash(1000), impl.StBad, filesDisk("base=?"))
	wantAct(t, "mended too early", mended, crash(1000, 1), impl.StBad, syncedFiles(t, "base", "?"+file))
	wantAct(t, "no form of a broken one", mended, crash(1000, 2), impl.StForm, mended)
	// A Crash that would leave too much.
	long := bytesLong(impl.MaxBytes - 100)
	much := diskOf(t, []impl.File{{Name: "z", Data: long}}, remove("z"), put("base", file), put("y", long[len(file):]))
	wantAct(t, "too much", much, crash(math.MaxInt64, 1, 2), impl.StForm, much)
	wantSteps(t, "not too much", much, syncedFiles(t, "base", file, "y", long[len(file):]), crash(math.MaxInt64, 0, 1, 2))
	wantAct(t, "nothing", impl.Disk{}, crash(0), impl.StNone, impl.Disk{})
	wantAct(t, "nothing to keep", impl.Disk{}, crash(0, 0), impl.StForm, impl.Disk{})
	// What an act of another kind names says nothing here.
	odd := crash(1000, 0, 1)
	odd.Schema, odd.Change, odd.Sync = wrongSchemas()["types fall"], impl.Change{Kind: 9}, true
	wantSteps(t, "and more", d, syncedFiles(t, "base", file, "log", one+two), odd)
}

func filesDisk(text string) impl.Disk { return impl.Disk{Live: filesOf(text), Safe: filesOf(text)} }

func TestPlay(t *testing.T) {
	s := schemaOf(t, small)
	log := func(text string) impl.Act {
		return impl.Act{Kind: impl.AcLog, Change: changeOf(t, text), Power: -1}
	}
	list := []impl.Act{
		log("add doc:a#viewer@user:x"), {Kind: impl.AcNew, Schema: s, Power: 2}, {Kind: impl.AcSave, Power: -1}, {Kind: impl.AcNew, Schema: s, Power: -1}, {Kind: impl.AcNew, Schema: s, Power: -1},
		log("add doc:a#viewer@user:x"), log("add doc:a#owner@user:y"), {Kind: impl.AcMove, Schema: schemaOf(t, less), Power: -1}, {Kind: 9}, {Kind: impl.AcLog, Power: -1}, log("drop doc:a#owner@user:y"),
		{Kind: impl.AcMove, Schema: schemaOf(t, less), Power: 4}, log("add doc:a#viewer@user:z"), {Kind: impl.AcCrash, Keep: []int64{7}, Power: -1}, {Kind: impl.AcCrash, Keep: []int64{0}, Torn: 3, Power: 2}, {Kind: impl.AcSave, Power: -1}, {Kind: impl.AcOpen, Power: -1},
	}
	want := []int64{impl.StNone, impl.StPower, impl.StNone, impl.StOk, impl.StForm, impl.StOk, impl.StOk, impl.StRefuse, impl.StForm, impl.StForm, impl.StOk, impl.StPower, impl.StOk, impl.StForm, impl.StPower, impl.StTorn, impl.StOk}
	d, codes := impl.StorePlay(impl.Disk{}, list)
	if !slices.Equal(codes, want) {
		t.Errorf("%v, not %v", codes, want)
	}
	wantView(t, "played", d, impl.StOk, less, "doc:a#viewer@user:x", 4)
	if !same(shortFiles(d.Live), fmt.Sprint("base:", len(frame(base("4", less, "doc:a#viewer@user:x"))))) {
		t.Error(shortFiles(d.Live))
	}
	// Acts in two pieces are the same acts.
	for at := range len(list) + 1 {
		half, one := impl.StorePlay(impl.Disk{}, list[:at])
		whole, two := impl.StorePlay(half, list[at:])
		if !sameDisk(whole, d) || !slices.Equal(append(one, two...), want) {
			t.Errorf("in two pieces at %d: %v %v", at, one, two)
		}
		wantApart(t, "pieces", half, whole)
	}
	if left, codes := impl.StorePlay(d, nil); !sameDisk(left, d) || len(codes) > 0 {
		t.Error("no acts", codes)
	}
}
