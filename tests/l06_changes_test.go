package tests

import (
	"fmt"
	"math"
	"slices"
	"strings"
	"testing"

	"loop.example/g00297/impl"
)

// changeOf reads add or drop, a blank, and a tuple's text.
func changeOf(t *testing.T, text string) impl.Change {
	t.Helper()
	word, tuple, _ := strings.Cut(text, " ")
	kind, known := map[string]int64{"add": impl.ChAdd, "drop": impl.ChDrop}[word]
	if !known {
		t.Fatalf("not a change: %q", text)
	}
	return impl.Change{Kind: kind, Tuple: tupleOf(t, tuple)}
}

// logOf reads changes, parted by commas.
func logOf(t *testing.T, texts string) []impl.Change {
	t.Helper()
	var log []impl.Change
	for _, text := range strings.Split(texts, ", ") {
		if text != "" {
			log = append(log, changeOf(t, text))
		}
	}
	return log
}

// wantApplied asks for this code and, when it is one of right data, for these tuples; Delta must tell the same code.
func wantApplied(t *testing.T, what string, s []impl.Type, l []impl.Tuple, c impl.Change, code int64, want string) {
	t.Helper()
	got, told := impl.Applied(s, l, c)
	if told != code || tuplesText(got) != want || len(got) != len(strings.Fields(want)) {
		t.Errorf("%s: %d, not %d, and the tuples\n%s, not\n%s", what, told, code, tuplesText(got), want)
	}
	more, less, told := impl.Delta(s, l, c)
	if told != code || code != impl.CgDone && len(more)+len(less) > 0 {
		t.Errorf("%s: Delta tells %d, not %d, with %s and %s", what, told, code, factsText(more), factsText(less))
	}
}

func TestNumbersOfChanges(t *testing.T) {
	if !same([]int64{1, 2, 60}, []int64{impl.ChAdd, impl.ChDrop, impl.MaxLog}) {
		t.Error("kinds, and how long a log may be")
	}
	if !same([]int64{0, 1, 2, 3, 4, 5, 6}, []int64{impl.CgDone, impl.CgWrong, impl.CgForm, impl.CgFits, impl.CgThere, impl.CgNone, impl.CgFull}) {
		t.Error("codes")
	}
}

func TestChangesOfOrdinaryData(t *testing.T) {
	s := schemaOf(t, sharing)
	const tuples = "doc:a#owner@user:y doc:b#parent@doc:a group:g#member@user:x"
	l := tuplesOf(t, strings.Fields(tuples)...)
	for change, want := range map[string]string{
		"add doc:a#banned@user:x":         "doc:a#banned@user:x doc:a#owner@user:y doc:b#parent@doc:a group:g#member@user:x",
		"add doc:b#banned@user:x":         "doc:a#owner@user:y doc:b#banned@user:x doc:b#parent@doc:a group:g#member@user:x",
		"add doc:a#owner@user:x":          "doc:a#owner@user:x doc:a#owner@user:y doc:b#parent@doc:a group:g#member@user:x",
		"add doc:a#viewer@group:g#member": "doc:a#owner@user:y doc:a#viewer@group:g#member doc:b#parent@doc:a group:g#member@user:x",
		"add group:h#member@user:x":       "doc:a#owner@user:y doc:b#parent@doc:a group:g#member@user:x group:h#member@user:x",
		"drop doc:a#owner@user:y":         "doc:b#parent@doc:a group:g#member@user:x",
		"drop doc:b#parent@doc:a":         "doc:a#owner@user:y group:g#member@user:x",
		"drop group:g#member@user:x":      "doc:a#owner@user:y doc:b#parent@doc:a",
	} {
		wantApplied(t, change, s, l, changeOf(t, change), impl.CgDone, want)
	}
	for change, code := range map[string]int64{
		"add doc:a#owner@user:y":               impl.CgThere,
		"add group:g#member@user:x":            impl.CgThere,
		"add doc:a#owner@group:g#member":       impl.CgFits,
		"add doc:a#none@user:x":                impl.CgFits,
		"add team:a#owner@user:x":              impl.CgFits,
		"add user:a#owner@user:x":              impl.CgFits,
		"add doc:a#viewer@group:g":             impl.CgFits,
		"add doc:a#viewer@group:g#owner":       impl.CgFits,
		"drop doc:a#owner@user:x":              impl.CgNone,
		"drop doc:b#owner@user:y":              impl.CgNone,
		"drop doc:a#editor@user:y":             impl.CgNone,
		"drop group:g#member@user:x#member":    impl.CgNone,
		"drop group:g#member@group:g#member":   impl.CgNone,
		"drop team:t#none@none:n":              impl.CgNone,
		"drop doc:b#parent@doc:a#parent":       impl.CgNone,
		"drop abcdefghijkl:_#a@abcdefghijkl:_": impl.CgNone,
	} {
		wantApplied(t, change, s, l, changeOf(t, change), code, tuples)
	}
	wantApplied(t, "the first one", s, nil, changeOf(t, "add doc:a#owner@user:y"), impl.CgDone, "doc:a#owner@user:y")
	wantApplied(t, "the last one", s, l[:1], changeOf(t, "drop doc:a#owner@user:y"), impl.CgDone, "")
	wantApplied(t, "none to drop", s, nil, changeOf(t, "drop doc:a#owner@user:y"), impl.CgNone, "")
	wantApplied(t, "no schema", nil, nil, changeOf(t, "add doc:a#owner@user:y"), impl.CgFits, "")
	wantApplied(t, "no schema, drop", nil, nil, changeOf(t, "drop doc:a#owner@user:y"), impl.CgNone, "")
}

func TestChangesOfAnotherForm(t *testing.T) {
	s := schemaOf(t, sharing)
	l := sortedTuples(t, "doc:a#owner@user:y doc:a#viewer@group:g#member")
	for _, kind := range []int64{0, 3, 4, -1, -2, 257, 1 << 32, 1<<32 + 1, math.MaxInt64, math.MinInt64} {
		// That it is there, that it is not, and that it does not fit are asked behind the form.
		for _, text := range []string{"doc:a#owner@user:y", "doc:a#owner@user:x", "doc:a#none@user:y"} {
			wantApplied(t, fmt.Sprint("kind ", kind), s, l, impl.Change{Kind: kind, Tuple: tupleOf(t, text)}, impl.CgForm, tuplesText(l))
		}
		wantApplied(t, "neither is right", s, l, impl.Change{Kind: kind}, impl.CgForm, tuplesText(l))
	}
	for _, wrong := range wrongTuples(l[1]) {
		for _, kind := range []int64{impl.ChAdd, impl.ChDrop} {
			wantApplied(t, fmt.Sprint(wrong), s, l, impl.Change{Kind: kind, Tuple: wrong}, impl.CgForm, tuplesText(l))
			wantApplied(t, fmt.Sprint(wrong), s, nil, impl.Change{Kind: kind, Tuple: wrong}, impl.CgForm, "")
			wantApplied(t, fmt.Sprint(wrong), nil, nil, impl.Change{Kind: kind, Tuple: wrong}, impl.CgForm, "")
		}
	}
}

// Two refusals would do for each of these inputs.
func TestOrderOfRefusals(t *testing.T) {
	s := schemaOf(t, sharing)
	most := numbered(impl.MaxTuples)
	all := tuplesText(most)
	wantApplied(t, "full, and there", s, most, impl.Change{Kind: impl.ChAdd, Tuple: most[0]}, impl.CgThere, all)
	wantApplied(t, "full, and does not fit", s, most, changeOf(t, "add doc:a#none@user:x"), impl.CgFits, all)
	wantApplied(t, "full, and no form", s, most, impl.Change{Kind: 3, Tuple: most[0]}, impl.CgForm, all)
	wantApplied(t, "full, and no tuple", s, most, impl.Change{Kind: impl.ChAdd}, impl.CgForm, all)
	wantApplied(t, "not there, and does not fit", s, most[:1], changeOf(t, "drop doc:a#none@user:x"), impl.CgNone, tuplesText(most[:1]))
	wantApplied(t, "not there, and full", s, most, changeOf(t, "drop doc:a#viewer@user:x"), impl.CgNone, all)
	wantApplied(t, "not there, and no tuple", s, most[:1], impl.Change{Kind: impl.ChDrop, Tuple: impl.Tuple{Rel: "viewer"}}, impl.CgForm, tuplesText(most[:1]))
	turned := []impl.Tuple{most[1], most[0]}
	for what, c := range map[string]impl.Change{
		"no form": {Kind: 3, Tuple: most[0]}, "nothing": {}, "no tuple": {Kind: impl.ChAdd}, "there": {Kind: impl.ChAdd, Tuple: most[0]},
		"not there": {Kind: impl.ChDrop, Tuple: most[2]}, "might be done": {Kind: impl.ChDrop, Tuple: most[0]},
		"does not fit": changeOf(t, "add doc:a#none@user:x"),
	} {
		wantApplied(t, what+", of wrong tuples", s, turned, c, impl.CgWrong, "")
		wantApplied(t, what+", of too many", s, numbered(impl.MaxTuples+1), c, impl.CgWrong, "")
		wantApplied(t, what+", of a wrong schema", s[:2], nil, c, impl.CgWrong, "")
	}
}

func TestChangesOf39And40Tuples(t *testing.T) {
	s := schemaOf(t, sharing)
	all := numbered(impl.MaxTuples + 1)
	last := impl.Change{Kind: impl.ChAdd, Tuple: all[impl.MaxTuples]}
	first := impl.Change{Kind: impl.ChAdd, Tuple: tupleOf(t, "doc:000#banned@user:ann")}
	for n := impl.MaxTuples - 2; n <= impl.MaxTuples; n++ {
		l := all[:n]
		if n < impl.MaxTuples {
			wantApplied(t, fmt.Sprint(n, " and one at the end"), s, l, last, impl.CgDone, tuplesText(l)+" "+impl.TupleText(last.Tuple))
			wantApplied(t, fmt.Sprint(n, " and one at the beginning"), s, l, first, impl.CgDone, impl.TupleText(first.Tuple)+" "+tuplesText(l))
		} else {
			wantApplied(t, "full", s, l, last, impl.CgFull, tuplesText(l))
			wantApplied(t, "full", s, l, first, impl.CgFull, tuplesText(l))
		}
		wantApplied(t, fmt.Sprint(n, " less one"), s, l, impl.Change{Kind: impl.ChDrop, Tuple: l[0]}, impl.CgDone, tuplesText(l[1:]))
		wantApplied(t, fmt.Sprint(n, " less the last"), s, l, impl.Change{Kind: impl.ChDrop, Tuple: l[n-1]}, impl.CgDone, tuplesText(l[:n-1]))
	}
}

func TestChangesOfWrongData(t *testing.T) {
	right := sortedTuples(t, "doc:x#a@user:p doc:x#a@user:q")
	for what, s := range wrongSchemas() {
		for _, l := range [][]impl.Tuple{nil, right[:1], right} {
			for _, text := range []string{"add doc:x#a@user:p", "add doc:x#a@user:r", "drop doc:x#a@user:p"} {
				wantApplied(t, what, s, l, changeOf(t, text), impl.CgWrong, "")
			}
		}
		if l, ok := impl.TuplesAt(s, nil, 0); ok || len(l) > 0 {
			t.Errorf("%s: the tuples %v at no changes", what, l)
		}
		if l, ok := impl.TuplesAt(s, logOf(t, "add doc:x#a@user:p"), 1); ok || len(l) > 0 {
			t.Errorf("%s: the tuples %v at one change", what, l)
		}
		if is, ok := impl.CheckAt(s, logOf(t, "add doc:x#a@user:p"), 1, factOf(t, "doc:x#a@user:p")); is || ok {
			t.Errorf("%s: a fact %v, %v at one change", what, is, ok)
		}
	}
	s := onDocs(relation("a", this(user())))
	wantApplied(t, "right", s, right, changeOf(t, "drop doc:x#a@user:p"), impl.CgDone, "doc:x#a@user:q")
	drop := impl.Change{Kind: impl.ChDrop, Tuple: right[0]}
	wantApplied(t, "one twice", s, []impl.Tuple{right[0], right[0]}, drop, impl.CgWrong, "")
	wantApplied(t, "turned", s, []impl.Tuple{right[1], right[0]}, drop, impl.CgWrong, "")
	// The one that does not fit is not to be dropped either.
	for _, text := range []string{"doc:x#b@user:p", "doc:x#a@doc:x", "doc:x#a@user:p#a", "team:x#a@user:p", "doc:x#a@doc:x#a"} {
		other := tupleOf(t, text)
		wantApplied(t, text, s, []impl.Tuple{other}, impl.Change{Kind: impl.ChDrop, Tuple: other}, impl.CgWrong, "")
		l, _ := impl.Added(right, other)
		wantApplied(t, text, s, l, drop, impl.CgWrong, "")
		wantApplied(t, text, s, l, changeOf(t, "add doc:x#a@user:r"), impl.CgWrong, "")
	}
	for _, wrong := range wrongTuples(right[1]) {
		wantApplied(t, fmt.Sprint(wrong), s, []impl.Tuple{wrong}, impl.Change{Kind: impl.ChDrop, Tuple: wrong}, impl.CgWrong, "")
		wantApplied(t, fmt.Sprint(wrong), s, []impl.Tuple{right[0], wrong}, drop, impl.CgWrong, "")
	}
}

type deltaCase struct {
	what, schema, tuples, change, more, less string
}

func askDeltas(t *testing.T, cases []deltaCase) {
	t.Helper()
	for _, c := range cases {
		more, less, code := impl.Delta(schemaOf(t, c.schema), sortedTuples(t, c.tuples), changeOf(t, c.change))
		if code != impl.CgDone || factsText(more) != c.more || factsText(less) != c.less {
			t.Errorf("%s: %s tells %d and brings\n%s, not\n%s, and takes\n%s, not\n%s", c.what, c.change, code, factsText(more), c.more, factsText(less), c.less)
		}
	}
}

func TestWhatChangesBringAndTake(t *testing.T) {
	const tuples = "doc:a#owner@user:y doc:b#parent@doc:a doc:c#parent@doc:b doc:b#viewer@group:g#member group:g#member@user:x"
	askDeltas(t, []deltaCase{
		{"a fact by itself", sharing, "", "add group:g#member@user:x", "group:g#member@user:x", ""},
		{"all that follows", sharing, tuples, "add doc:a#owner@user:z", "doc:a#editor@user:z doc:a#owner@user:z doc:a#viewer@user:z doc:b#viewer@user:z doc:c#viewer@user:z", ""},
		{"all that followed", sharing, tuples, "drop doc:a#owner@user:y", "", "doc:a#editor@user:y doc:a#owner@user:y doc:a#viewer@user:y doc:b#viewer@user:y doc:c#viewer@user:y"},
		{"a member of a group", sharing, tuples, "add group:g#member@group:h#member", "", ""},
		{"a way", sharing, tuples, "drop doc:c#parent@doc:b", "", "doc:c#parent@doc:b doc:c#viewer@user:x doc:c#viewer@user:y"},
		{"a set", sharing, tuples, "drop doc:b#viewer@group:g#member", "", "doc:b#viewer@user:x doc:c#viewer@user:x"},
		// Both at once: what is taken away is brought, and what stood by it is taken.
		{"banned", sharing, tuples, "add doc:b#banned@user:y", "doc:b#banned@user:y", "doc:b#viewer@user:y doc:c#viewer@user:y"},
		{"no more banned", sharing, tuples + " doc:b#banned@user:y", "drop doc:b#banned@user:y", "doc:b#viewer@user:y doc:c#viewer@user:y", "doc:b#banned@user:y"},
		{"banned who was none", sharing, tuples, "add doc:b#banned@user:z", "doc:b#banned@user:z", ""},
		{"there by another way", sharing, tuples, "add doc:a#editor@user:y", "", ""},
		{"still there by another way", sharing, tuples + " doc:a#editor@user:y", "drop doc:a#editor@user:y", "", ""},
		{"still there in part", sharing, tuples + " doc:a#viewer@user:y", "drop doc:a#owner@user:y", "", "doc:a#editor@user:y doc:a#owner@user:y"},
		// A step up each: c is taken where b is brought, and d is brought where c is taken.
		{"brought and taken in turn", "type doc\na = this(user)\nb = this(user)\nc = a - b\nd = a - c\ne = a - d\ntype user\n", "doc:x#a@user:p doc:x#a@user:q", "add doc:x#b@user:p", "doc:x#b@user:p doc:x#d@user:p", "doc:x#c@user:p doc:x#e@user:p"},
		{"and back", "type doc\na = this(user)\nb = this(user)\nc = a - b\nd = a - c\ne = a - d\ntype user\n", "doc:x#a@user:p doc:x#a@user:q doc:x#b@user:p", "drop doc:x#b@user:p", "doc:x#c@user:p doc:x#e@user:p", "doc:x#b@user:p doc:x#d@user:p"},
		{"a ring falls as a whole", "type group\nmember = this(user,group#member)\ntype user\n", "group:g#member@group:h#member group:h#member@group:g#member group:h#member@user:x", "drop group:h#member@user:x", "", "group:g#member@user:x group:h#member@user:x"},
		{"by text and not by stratum", "type doc\nab = this(user) - b\nb = this(user)\nz = this(user)\ntype user\n", "doc:x#ab@user:p", "add doc:x#b@user:p", "doc:x#b@user:p", "doc:x#ab@user:p"},
		{"the order of texts", "type doc\na = b\nb = this(user)\ntype user\n", "doc:x#b@user:p", "add doc:xa#b@user:p", "doc:xa#a@user:p doc:xa#b@user:p", ""},
	})
}

// longLog has 32 owners come and go again: more changes than a log may have.
func longLog() []impl.Change {
	var log []impl.Change
	for i := range 32 {
		u := impl.Tuple{Object: impl.Object{Type: "doc", Id: "a"}, Rel: "owner", Subject: impl.Object{Type: "user", Id: fmt.Sprintf("u%02d", i)}}
		log = append(log, impl.Change{Kind: impl.ChAdd, Tuple: u})
	}
	for i := range 32 {
		log = append(log, impl.Change{Kind: impl.ChDrop, Tuple: log[31-i].Tuple})
	}
	return log
}

func TestPlacesOfAHistory(t *testing.T) {
	s := schemaOf(t, sharing)
	log := longLog()
	for _, long := range []int{0, 1, 2, 59, 60, 61, 62} {
		for _, n := range []int64{0, 1, 2, 31, 32, 33, 59, 60, 61, 62, -1, -2, int64(long), int64(long) - 1, int64(long) + 1, math.MaxInt64, math.MinInt64, 1 << 32, -1 << 32} {
			want := long <= 60 && n >= 0 && n <= int64(long)
			l, ok := impl.TuplesAt(s, log[:long], n)
			if ok != want || !ok && len(l) > 0 {
				t.Errorf("at %d of %d: %v, %v", n, long, l, ok)
			}
			if ok && int64(len(l)) != min(n, 64-n) {
				t.Errorf("at %d of %d: %d tuples", n, long, len(l))
			}
			first := impl.Fact{Object: log[0].Tuple.Object, Rel: "viewer", User: log[0].Tuple.Subject}
			if is, told := impl.CheckAt(s, log[:long], n, first); told != want || is != (want && n > 0) {
				t.Errorf("at %d of %d: Check %v, %v", n, long, is, told)
			}
		}
	}
}

func TestHistoryStepByStep(t *testing.T) {
	s := schemaOf(t, sharing)
	log := logOf(t, "add doc:b#parent@doc:a, add doc:a#owner@user:y, add doc:b#banned@user:y, drop doc:b#banned@user:y, drop doc:a#owner@user:y, add doc:a#owner@user:y")
	f := factOf(t, "doc:b#viewer@user:y")
	for n, want := range []struct {
		tuples string
		is     bool
	}{
		{"", false},
		{"doc:b#parent@doc:a", false},
		{"doc:a#owner@user:y doc:b#parent@doc:a", true},
		{"doc:a#owner@user:y doc:b#banned@user:y doc:b#parent@doc:a", false},
		{"doc:a#owner@user:y doc:b#parent@doc:a", true},
		{"doc:b#parent@doc:a", false},
		{"doc:a#owner@user:y doc:b#parent@doc:a", true},
	} {
		if l, ok := impl.TuplesAt(s, log, int64(n)); !ok || tuplesText(l) != want.tuples {
			t.Errorf("at %d: %s, %v", n, tuplesText(l), ok)
		}
		if is, ok := impl.CheckAt(s, log, int64(n), f); !ok || is != want.is {
			t.Errorf("at %d: %v, %v", n, is, ok)
		}
	}
	// At a place that is there a fact that is not right is just none.
	for _, wrong := range append(wrongFacts(), factOf(t, "doc:b#none@user:y"), factOf(t, "team:b#viewer@user:y")) {
		if is, ok := impl.CheckAt(s, log, 2, wrong); is || !ok {
			t.Errorf("%v: %v, %v", wrong, is, ok)
		}
		if is, ok := impl.CheckAt(s, log, 7, wrong); is || ok {
			t.Errorf("%v at none: %v, %v", wrong, is, ok)
		}
	}
	if l, ok := impl.TuplesAt(nil, nil, 0); !ok || len(l) > 0 {
		t.Error("a schema of no types, and no changes", l, ok)
	}
}

// A change that is refused stands at each place of a history: it counts only for the places behind it.
func TestRefusedChangesOfAHistory(t *testing.T) {
	s := schemaOf(t, sharing)
	log := logOf(t, "add doc:b#parent@doc:a, add doc:a#owner@user:y, drop doc:b#parent@doc:a")
	f := factOf(t, "doc:a#viewer@user:y")
	for what, c := range map[string]impl.Change{
		"no kind": {Kind: 3, Tuple: log[0].Tuple}, "nothing": {}, "no tuple": {Kind: impl.ChAdd}, "a wrong id": {Kind: impl.ChAdd, Tuple: impl.Tuple{Object: impl.Object{Type: "doc", Id: "A"}, Rel: "owner", Subject: impl.Object{Type: "user", Id: "y"}}},
		"does not fit": changeOf(t, "add doc:a#owner@doc:a"), "not there": changeOf(t, "drop doc:a#owner@user:z"), "never there": changeOf(t, "drop team:a#owner@user:z"),
	} {
		for at := range len(log) + 1 {
			with := slices.Insert(slices.Clone(log), at, c)
			for n := range len(with) + 1 {
				l, ok := impl.TuplesAt(s, with, int64(n))
				is, told := impl.CheckAt(s, with, int64(n), f)
				if ok != (n <= at) || told != ok || !ok && (is || len(l) > 0) {
					t.Errorf("%s at %d, asked at %d: %v, %v and %v, %v", what, at, n, l, ok, is, told)
				}
				if ok && is != (n >= 2) {
					t.Errorf("%s at %d, asked at %d: %v", what, at, n, is)
				}
			}
		}
	}
	for _, text := range []string{"add doc:b#parent@doc:a, add doc:b#parent@doc:a", "drop doc:b#parent@doc:a, add doc:b#parent@doc:a", "add doc:b#parent@doc:a, drop doc:b#parent@doc:a, drop doc:b#parent@doc:a"} {
		log := logOf(t, text)
		if l, ok := impl.TuplesAt(s, log, int64(len(log))); ok || len(l) > 0 {
			t.Errorf("%s: %v", text, l)
		}
	}
	var full []impl.Change
	for _, u := range numbered(impl.MaxTuples + 1) {
		full = append(full, impl.Change{Kind: impl.ChAdd, Tuple: u})
	}
	if l, ok := impl.TuplesAt(s, full, impl.MaxTuples); !ok || tuplesText(l) != tuplesText(numbered(impl.MaxTuples)) {
		t.Error("as many as there may be", len(l), ok)
	}
	if l, ok := impl.TuplesAt(s, full, impl.MaxTuples+1); ok || len(l) > 0 {
		t.Error("one too many", len(l))
	}
	for _, at := range []int{0, 20, 39} {
		again := slices.Insert(slices.Clone(full), impl.MaxTuples, impl.Change{Kind: impl.ChDrop, Tuple: full[at].Tuple})
		if l, ok := impl.TuplesAt(s, again, impl.MaxTuples+2); !ok || len(l) != impl.MaxTuples {
			t.Error("one less, and one more", len(l), ok)
		}
	}
}
