package tests

import (
	"fmt"
	"slices"
	"strings"
	"testing"

	"loop.example/g00297/impl"
)

func factsOf(t *testing.T, texts string) []impl.Fact {
	t.Helper()
	var list []impl.Fact
	for _, text := range strings.Fields(texts) {
		list = append(list, factOf(t, text))
	}
	return list
}

type followCase struct {
	what, schema, tuples, known, fact string
	want                              bool
}

func askFollows(t *testing.T, cases []followCase) {
	t.Helper()
	for _, c := range cases {
		s, l := schemaOf(t, c.schema), sortedTuples(t, c.tuples)
		if got := impl.Follows(s, l, factsOf(t, c.known), factOf(t, c.fact)); got != c.want {
			t.Errorf("%s: %s from %q is told to be %v", c.what, c.fact, c.known, got)
		}
	}
}

func TestFollowsOfEachKindOfNode(t *testing.T) {
	const head = "type doc\na = this(user)\nb = this(user)\nc = this(user)\n"
	// Facts have p as a, b and c, and q as a alone; what is known stands beside them.
	const tuples = "doc:x#a@user:p doc:x#b@user:p doc:x#c@user:p doc:x#a@user:q"
	for _, c := range []struct {
		expr, known string
		p, q        bool
	}{
		{"a", "", false, false}, {"a", "a", true, true}, {"a", "b", false, false},
		{"a | b", "", false, false}, {"a | b", "a", true, true}, {"a | b", "b", true, true}, {"a | b", "c", false, false}, {"a | b | c", "c", true, true},
		{"a & b", "", false, false}, {"a & b", "a", false, false}, {"a & b", "b", false, false}, {"a & b", "ab", true, true}, {"a & b & c", "bc", false, false}, {"a & b & c", "cba", true, true},
		// The first kid goes by what is known, the second by Facts: p has b there, q has not.
		{"a - b", "", false, false}, {"a - b", "a", false, true}, {"a - b", "b", false, false}, {"a - b", "ab", false, true}, {"b - a", "b", false, false},
		{"a - (b & c)", "a", false, true}, {"a - (b & c)", "abc", false, true}, {"a - (b | c)", "abc", false, true},
		// All below the second kid goes by Facts, also what is taken away there again.
		{"a - (b - c)", "a", true, true}, {"a - (b - c)", "ab", true, true}, {"a - (b - c)", "bc", false, false}, {"a - (a - b)", "a", true, false}, {"a - (a - b)", "ab", true, false},
		{"a - (a - (a - b))", "a", false, true}, {"a - (a - (a - b))", "ab", false, true}, {"(a - b) - c", "abc", false, true}, {"(a - b) | c", "c", true, true}, {"(a | c) - b", "c", false, true}, {"c & (a - b)", "ca", false, true}, {"c & (a - b)", "a", false, false},
	} {
		s := schemaOf(t, head+"d = "+c.expr+"\ntype user\n")
		for user, want := range map[string]bool{"p": c.p, "q": c.q} {
			var known []impl.Fact
			for _, r := range c.known {
				known = append(known, factOf(t, "doc:x#"+string(r)+"@user:"+user))
			}
			if got := impl.Follows(s, sortedTuples(t, tuples), known, factOf(t, "doc:x#d@user:"+user)); got != want {
				t.Errorf("%s of %s by %q is told to be %v", c.expr, user, c.known, got)
			}
		}
	}
}

func TestFollowsByTuples(t *testing.T) {
	const tuples = "doc:a#viewer@group:g#member doc:a#viewer@group:h#member group:g#member@user:x doc:b#parent@doc:a doc:b#parent@doc:c doc:a#owner@user:y doc:b#banned@user:x"
	askFollows(t, []followCase{
		{"the subject itself", sharing, tuples, "", "group:g#member@user:x", true},
		{"another subject", sharing, tuples, "", "group:g#member@user:y", false},
		{"another object", sharing, tuples, "", "group:h#member@user:x", false},
		{"a set that is known", sharing, tuples, "group:g#member@user:x", "doc:a#viewer@user:x", true},
		{"the other set", sharing, tuples, "group:h#member@user:x", "doc:a#viewer@user:x", true},
		{"a set that is not known", sharing, tuples, "", "doc:a#viewer@user:x", false},
		{"a set of another user", sharing, tuples, "group:g#member@user:y", "doc:a#viewer@user:x", false},
		{"a set that no tuple names", sharing, tuples, "group:i#member@user:x", "doc:a#viewer@user:x", false},
		{"the subject of a set is no user", sharing, tuples, "", "doc:a#viewer@group:g", false},
		{"by a name", sharing, tuples, "doc:a#owner@user:y", "doc:a#editor@user:y", true},
		{"by a name of another object", sharing, tuples, "doc:b#owner@user:y", "doc:a#editor@user:y", false},
		{"two steps at once", sharing, tuples, "doc:a#owner@user:y", "doc:a#viewer@user:y", false},
		{"over", sharing, tuples, "doc:a#viewer@user:y", "doc:b#viewer@user:y", true},
		{"over the other one", sharing, tuples, "doc:c#viewer@user:y", "doc:b#viewer@user:y", true},
		{"over one that no tuple names", sharing, tuples, "doc:d#viewer@user:y", "doc:b#viewer@user:y", false},
		{"over, another relation", sharing, tuples, "doc:a#editor@user:y", "doc:b#viewer@user:y", false},
		{"over, the wrong way round", sharing, tuples, "doc:b#viewer@user:y", "doc:a#viewer@user:y", false},
		{"the way is not known, nor asked", sharing, tuples, "doc:b#parent@doc:a", "doc:b#viewer@user:y", false},
		{"banned", sharing, tuples, "doc:a#viewer@user:x", "doc:b#viewer@user:x", false},
		{"known itself", sharing, tuples, "doc:a#viewer@user:y", "doc:a#viewer@user:y", false},
		{"a tuple that is not enough", "type doc\na = this(user) & b\nb = this(user)\ntype user\n", "doc:x#a@user:p doc:x#b@user:p", "", "doc:x#a@user:p", false},
		{"a tuple and what is known", "type doc\na = this(user) & b\nb = this(user)\ntype user\n", "doc:x#a@user:p", "doc:x#b@user:p", "doc:x#a@user:p", true},
	})
}

// What is taken away goes by Facts, whatever is known.
func TestFollowsByWhatIsTakenAway(t *testing.T) {
	const byName = "type doc\na = this(user)\nb = this(user)\nc = a - b\ntype user\n"
	const bySet = "type doc\na = this(user)\nc = a - this(team#m)\ntype team\nm = this(user)\ntype user\n"
	const byWay = "type doc\na = this(user)\nb = this(user)\nc = a - in->b\nin = this(doc)\ntype user\n"
	askFollows(t, []followCase{
		{"a fact, not known", byName, "doc:x#b@user:p", "doc:x#a@user:p", "doc:x#c@user:p", false},
		{"a fact, known", byName, "doc:x#b@user:p", "doc:x#a@user:p doc:x#b@user:p", "doc:x#c@user:p", false},
		{"no fact, not known", byName, "", "doc:x#a@user:p", "doc:x#c@user:p", true},
		{"no fact, known", byName, "", "doc:x#a@user:p doc:x#b@user:p", "doc:x#c@user:p", true},
		{"a set that is a fact, not known", bySet, "doc:x#c@team:t#m team:t#m@user:p", "doc:x#a@user:p", "doc:x#c@user:p", false},
		{"a set that is no fact, known", bySet, "doc:x#c@team:t#m", "doc:x#a@user:p team:t#m@user:p", "doc:x#c@user:p", true},
		{"over what is a fact, not known", byWay, "doc:x#in@doc:y doc:y#b@user:p", "doc:x#a@user:p", "doc:x#c@user:p", false},
		{"over what is no fact, known", byWay, "doc:x#in@doc:y", "doc:x#a@user:p doc:y#b@user:p", "doc:x#c@user:p", true},
		{"its own tuple", "type doc\na = this(user)\nc = a - this(user)\ntype user\n", "doc:x#c@user:p", "doc:x#a@user:p", "doc:x#c@user:p", false},
		// What takes away may follow itself by other facts alone: b is one of Facts by e, which is not known.
		{"a fact of two steps, not known", "type doc\na = this(user)\nb = e\nc = a - b\ne = this(user)\ntype user\n", "doc:x#e@user:p", "doc:x#a@user:p", "doc:x#c@user:p", false},
		{"of what is known alone", "type doc\na = this(user)\nb = e\nc = a - b\ne = this(user)\ntype user\n", "", "doc:x#a@user:p doc:x#e@user:p", "doc:x#c@user:p", true},
		{"one that takes away from one that takes away", "type doc\na = this(user)\nb = a - e\nc = a - b\ne = this(user)\ntype user\n", "doc:x#a@user:p doc:x#e@user:p", "doc:x#a@user:p doc:x#b@user:p", "doc:x#c@user:p", true},
		{"and is known to", "type doc\na = this(user)\nb = a - e\nc = a - b\ne = this(user)\ntype user\n", "doc:x#a@user:p", "doc:x#a@user:p doc:x#e@user:p", "doc:x#c@user:p", false},
	})
}

func TestFollowsOfRelationsThatNameThemselves(t *testing.T) {
	const members = "type group\nmember = this(user,group#member)\ntype user\n"
	const parents = "type doc\nparent = this(doc)\nviewer = this(user) | parent->viewer\ntype user\n"
	askFollows(t, []followCase{
		{"by a name, known", "type doc\na = a\nb = this(user)\ntype user\n", "", "doc:x#a@user:p", "doc:x#a@user:p", true},
		{"by a name, not known", "type doc\na = a\nb = this(user)\ntype user\n", "", "", "doc:x#a@user:p", false},
		{"by a set, known", members, "group:g#member@group:g#member", "group:g#member@user:x", "group:g#member@user:x", true},
		{"by a set, not known", members, "group:g#member@group:g#member", "", "group:g#member@user:x", false},
		{"over, known", parents, "doc:a#parent@doc:a", "doc:a#viewer@user:x", "doc:a#viewer@user:x", true},
		{"over, not known", parents, "doc:a#parent@doc:a", "", "doc:a#viewer@user:x", false},
		{"a ring, from the other one", members, "group:g#member@group:h#member group:h#member@group:g#member", "group:g#member@user:x", "group:h#member@user:x", true},
	})
}

// Right facts of things that no tuple names are answered by the words: by what is known.
func TestFollowsOfWhatTheDataDoNotKnow(t *testing.T) {
	const tuples = "doc:a#owner@user:y doc:b#parent@doc:a"
	askFollows(t, []followCase{
		{"another object", sharing, tuples, "doc:z#owner@user:y", "doc:z#editor@user:y", true},
		{"another object, nothing known", sharing, tuples, "", "doc:z#editor@user:y", false},
		{"another user", sharing, tuples, "doc:a#viewer@user:z", "doc:b#viewer@user:z", true},
		{"a user of another type", sharing, tuples, "doc:a#viewer@team:z", "doc:b#viewer@team:z", true},
		{"no tuples at all", sharing, "", "doc:z#owner@user:z", "doc:z#editor@user:z", true},
		{"no such relation", sharing, tuples, "doc:a#owner@user:y", "doc:a#none@user:y", false},
		{"a relation of another type", sharing, tuples, "doc:a#owner@user:y", "doc:a#member@user:y", false},
		{"a type without relations", sharing, tuples, "doc:a#owner@user:y", "user:a#owner@user:y", false},
		{"no such type", sharing, tuples, "doc:a#owner@user:y", "team:a#owner@user:y", false},
		{"known of no such relation", sharing, tuples, "doc:a#none@user:y team:t#owner@user:y doc:a#owner@user:y", "doc:a#editor@user:y", true},
	})
}

// chain answers data whose facts of user:x stand in one line of 6 n, each leaning on the one ahead of it alone, and the line; turned, the objects' order is against it.
func chain(t *testing.T, n int, turned bool) ([]impl.Type, []impl.Tuple, []impl.Fact) {
	t.Helper()
	s := schemaOf(t, "type doc\na = this(user,doc#f)\nb = a\nc = b\nd = c\ne = d\nf = e\ntype user\n")
	var tuples string
	var line []impl.Fact
	last := "user:x"
	for i := range n {
		if turned {
			i = n - 1 - i
		}
		object := fmt.Sprintf("doc:%02d", i)
		tuples += " " + object + "#a@" + last
		last = object + "#f"
		for _, name := range []string{"a", "b", "c", "d", "e", "f"} {
			line = append(line, factOf(t, object+"#"+name+"@user:x"))
		}
	}
	return s, sortedTuples(t, tuples), line
}

func TestMostThatIsKnown(t *testing.T) {
	s, l, line := chain(t, impl.MaxTuples, false)
	for _, n := range []int{0, 1, 199, 200, 201, 202, 239} {
		if got := impl.Follows(s, l, line[:n], line[n]); got != (n <= 200) {
			t.Errorf("from %d facts: %v", n, got)
		}
		if impl.Follows(s, l, line[:n], line[(n+1)%len(line)]) != (n == 239) && n <= 200 {
			t.Errorf("two steps from %d facts", n)
		}
		// One that needs nothing is refused, too, when too much is known.
		if got := impl.Follows(s, l, line[:n], line[0]); got != (n <= 200) {
			t.Errorf("the first one from %d facts: %v", n, got)
		}
	}
	f := factOf(t, "doc:a#a@user:x")
	s, l = onDocs(relation("a", this(user())), relation("b", rel("a"))), sortedTuples(t, "doc:a#a@user:x")
	for _, n := range []int{1, 200, 201} {
		// Alike ones and wrong ones count each.
		for _, filler := range []impl.Fact{f, factOf(t, "doc:z#none@user:z"), {}} {
			known := append(slices.Repeat([]impl.Fact{filler}, n-1), f)
			if got := impl.Follows(s, l, known, factOf(t, "doc:a#b@user:x")); got != (n <= 200) {
				t.Errorf("%d known, %v most of them: %v", n, filler, got)
			}
		}
	}
}

func TestStepsOfAProof(t *testing.T) {
	s := schemaOf(t, sharing)
	l := sortedTuples(t, "doc:a#viewer@group:g#member group:g#member@user:x doc:b#parent@doc:a doc:a#owner@user:y doc:b#banned@user:x")
	for texts, want := range map[string]bool{
		"":                                       false,
		"doc:a#owner@user:y":                     true,
		"doc:b#parent@doc:a":                     true,
		"doc:a#editor@user:y":                    false,
		"doc:a#owner@user:y doc:a#editor@user:y": true,
		"doc:a#editor@user:y doc:a#owner@user:y": false,
		"doc:a#owner@user:y doc:a#viewer@user:y": false,
		"doc:a#owner@user:y doc:a#owner@user:y":  true,
		"doc:a#editor@user:y doc:a#owner@user:y doc:a#editor@user:y":                                         false,
		"doc:a#owner@user:y doc:a#editor@user:y doc:a#editor@user:y doc:a#viewer@user:y doc:b#viewer@user:y": true,
		"doc:a#owner@user:y doc:a#editor@user:y doc:a#viewer@user:y doc:b#viewer@user:x":                     false,
		"group:g#member@user:x doc:a#viewer@user:x":                                                          true,
		"group:g#member@user:x doc:a#owner@user:y doc:a#viewer@user:x doc:b#parent@doc:a":                    true,
		"doc:a#viewer@user:x group:g#member@user:x":                                                          false,
		"group:g#member@user:x doc:a#viewer@user:x doc:b#viewer@user:x":                                      false,
		"doc:b#banned@user:x group:g#member@user:x doc:a#viewer@user:x doc:b#viewer@user:x":                  false,
		"doc:a#owner@user:y doc:a#owner@user:x":                                                              false,
		"doc:a#owner@user:y doc:z#owner@user:y":                                                              false,
		"doc:a#owner@user:y doc:a#none@user:y":                                                               false,
		"doc:a#owner@user:y team:a#owner@user:y":                                                             false,
		"doc:a#owner@user:y doc:a#owner@team:y":                                                              false,
	} {
		if got := impl.ProofOk(s, l, factsOf(t, texts)); got != want {
			t.Errorf("%q is told to be %v", texts, got)
		}
	}
	if impl.ProofOk(s, l, nil) || impl.ProofOk(s, l, []impl.Fact{}) || impl.ProofOk(nil, nil, nil) {
		t.Error("an empty list is a proof")
	}
	// A fact that rests on itself alone has none.
	s, l = schemaOf(t, "type doc\na = a\nb = c\nc = b\nd = this(user)\ntype user\n"), sortedTuples(t, "doc:x#d@user:p")
	for _, texts := range []string{"doc:x#a@user:p", "doc:x#a@user:p doc:x#a@user:p", "doc:x#b@user:p doc:x#c@user:p doc:x#b@user:p", "doc:x#d@user:p doc:x#c@user:p"} {
		if impl.ProofOk(s, l, factsOf(t, texts)) {
			t.Errorf("%q is a proof", texts)
		}
	}
}

func TestMostStepsOfAProof(t *testing.T) {
	s, l, line := chain(t, impl.MaxTuples, false)
	for _, n := range []int{0, 1, 2, 199, 200, 201, 240} {
		if got := impl.ProofOk(s, l, line[:n]); got != (n >= 1 && n <= 200) {
			t.Errorf("%d steps: %v", n, got)
		}
		if n > 0 {
			if got := impl.ProofOk(s, l, slices.Repeat(line[:1], n)); got != (n <= 200) {
				t.Errorf("%d alike steps: %v", n, got)
			}
		}
	}
	if impl.ProofOk(s, l, append(slices.Clone(line[:198]), line[199])) || impl.ProofOk(s, l, append(slices.Clone(line[:199]), line[200])) {
		t.Error("the last step does not follow")
	}
}

type proofCase struct {
	what, schema, tuples, fact, want string
}

// askProofs asks for just these steps, that they are a proof, and that none but the last can be left out.
func askProofs(t *testing.T, cases []proofCase) {
	t.Helper()
	for _, c := range cases {
		s, l := schemaOf(t, c.schema), sortedTuples(t, c.tuples)
		list, ok := impl.ProofOf(s, l, factOf(t, c.fact))
		if got := factsText(list); got != c.want || ok != (c.want != "") {
			t.Errorf("%s: the proof of %s is\n%s (%v), not\n%s", c.what, c.fact, got, ok, c.want)
		}
		if impl.ProofOk(s, l, list) != (c.want != "") {
			t.Errorf("%s: it is no proof", c.what)
		}
		for i := range len(list) - 1 {
			if impl.ProofOk(s, l, slices.Delete(slices.Clone(list), i, i+1)) {
				t.Errorf("%s: without %v it is a proof as well", c.what, list[i])
			}
		}
	}
}

func TestProofsOfOrdinaryData(t *testing.T) {
	const tuples = "doc:a#viewer@group:g#member group:g#member@group:h#member group:h#member@user:x doc:b#parent@doc:a doc:b#banned@user:x doc:c#parent@doc:a doc:a#owner@user:y"
	askProofs(t, []proofCase{
		{"a tuple", sharing, tuples, "doc:a#owner@user:y", "doc:a#owner@user:y"},
		{"a way", sharing, tuples, "doc:c#parent@doc:a", "doc:c#parent@doc:a"},
		{"by a name", sharing, tuples, "doc:a#editor@user:y", "doc:a#owner@user:y doc:a#editor@user:y"},
		{"by names", sharing, tuples, "doc:a#viewer@user:y", "doc:a#owner@user:y doc:a#editor@user:y doc:a#viewer@user:y"},
		{"over", sharing, tuples, "doc:b#viewer@user:y", "doc:a#owner@user:y doc:a#editor@user:y doc:a#viewer@user:y doc:b#viewer@user:y"},
		{"by sets", sharing, tuples, "doc:c#viewer@user:x", "group:h#member@user:x group:g#member@user:x doc:a#viewer@user:x doc:c#viewer@user:x"},
		{"banned", sharing, tuples, "doc:b#viewer@user:x", ""},
		{"no fact", sharing, tuples, "doc:a#owner@user:x", ""},
		{"no such object", sharing, tuples, "doc:z#owner@user:y", ""},
		{"no such user", sharing, tuples, "doc:a#owner@user:z", ""},
		{"a user of another type", sharing, tuples, "doc:a#owner@group:g", ""},
		{"no such relation", sharing, tuples, "doc:a#none@user:y", ""},
		{"no such type", sharing, tuples, "team:a#owner@user:y", ""},
		{"a type without relations", sharing, tuples, "user:y#owner@user:y", ""},
		{"no tuples", sharing, "", "doc:a#owner@user:y", ""},
		// What is taken away is no step of a proof.
		{"but", "type doc\na = this(user)\nb = this(user)\nc = a - b\ntype user\n", "doc:x#a@user:p doc:x#b@user:q", "doc:x#c@user:p", "doc:x#a@user:p doc:x#c@user:p"},
		{"but for less", "type doc\na = this(user)\nb = this(user)\nc = a - (a - b)\ntype user\n", "doc:x#a@user:p doc:x#b@user:p", "doc:x#c@user:p", "doc:x#a@user:p doc:x#c@user:p"},
		{"both", "type doc\na = this(user)\nb = this(user)\nc = b & a\ntype user\n", "doc:x#a@user:p doc:x#b@user:p", "doc:x#c@user:p", "doc:x#a@user:p doc:x#b@user:p doc:x#c@user:p"},
		{"its own tuple is enough", "type doc\na = this(user)\nb = this(user) | a\ntype user\n", "doc:x#a@user:p doc:x#b@user:p", "doc:x#b@user:p", "doc:x#b@user:p"},
	})
}

func TestProofsOfRelationsThatNameThemselves(t *testing.T) {
	const members = "type group\nmember = this(user,group#member)\ntype user\n"
	const parents = "type doc\nparent = this(doc)\nviewer = this(user) | parent->viewer\ntype user\n"
	const ring = "doc:a#parent@doc:b doc:b#parent@doc:c doc:c#parent@doc:a doc:b#viewer@user:x"
	askProofs(t, []proofCase{
		{"by a name", "type doc\na = this(user) | a\ntype user\n", "doc:x#a@user:p", "doc:x#a@user:p", "doc:x#a@user:p"},
		{"by a name alone", "type doc\na = a\nb = this(user)\ntype user\n", "doc:x#b@user:p", "doc:x#a@user:p", ""},
		{"by a set", members, "group:g#member@group:g#member group:g#member@user:x", "group:g#member@user:x", "group:g#member@user:x"},
		{"by a set alone", members, "group:g#member@group:g#member group:h#member@user:x", "group:g#member@user:x", ""},
		{"by sets in a ring", members, "group:g#member@group:h#member group:h#member@group:g#member group:h#member@user:x", "group:g#member@user:x", "group:h#member@user:x group:g#member@user:x"},
		{"by sets in a ring, the one with the tuple", members, "group:g#member@group:h#member group:h#member@group:g#member group:h#member@user:x", "group:h#member@user:x", "group:h#member@user:x"},
		{"over itself", parents, "doc:a#parent@doc:a doc:a#viewer@user:x", "doc:a#viewer@user:x", "doc:a#viewer@user:x"},
		{"over itself alone", parents, "doc:a#parent@doc:a doc:b#viewer@user:x", "doc:a#viewer@user:x", ""},
		{"over a ring, one away", parents, ring, "doc:a#viewer@user:x", "doc:b#viewer@user:x doc:a#viewer@user:x"},
		{"over a ring, two away", parents, ring, "doc:c#viewer@user:x", "doc:b#viewer@user:x doc:a#viewer@user:x doc:c#viewer@user:x"},
		// Each of a and b might rest on the other one: one of them rests on what is ahead of both.
		{"two that name one another", "type doc\na = b | p\nb = a | q\np = this(user)\nq = this(user)\nt = a & b\ntype user\n", "doc:x#p@user:u doc:x#q@user:u", "doc:x#t@user:u", "doc:x#p@user:u doc:x#a@user:u doc:x#b@user:u doc:x#t@user:u"},
	})
}

// The order in which facts are found is the order of the steps, and of two ways to a fact the one that is found last is left out first.
func TestOrderOfProofs(t *testing.T) {
	const ways = "type doc\nin = this(doc)\nref = this(doc)\nsee = this(user) | in->see\ntype user\n"
	askProofs(t, []proofCase{
		{"relations by name", "type doc\na = this(user)\nb = this(user)\nc = b | a\ntype user\n", "doc:x#a@user:p doc:x#b@user:p", "doc:x#c@user:p", "doc:x#a@user:p doc:x#c@user:p"},
		{"and not by how they are named in an expression", "type doc\na = this(user)\nb = this(user)\nc = b & a\nd = b\ne = d & c\ntype user\n", "doc:x#a@user:p doc:x#b@user:p", "doc:x#e@user:p", "doc:x#a@user:p doc:x#b@user:p doc:x#c@user:p doc:x#d@user:p doc:x#e@user:p"},
		{"a name against the order comes a round later", "type doc\na = b\nb = this(user)\nc = a & b\ntype user\n", "doc:x#b@user:p", "doc:x#c@user:p", "doc:x#b@user:p doc:x#a@user:p doc:x#c@user:p"},
		{"three rounds", "type doc\na = b\nb = c\nc = this(user)\ntype user\n", "doc:x#c@user:p", "doc:x#a@user:p", "doc:x#c@user:p doc:x#b@user:p doc:x#a@user:p"},
		{"objects against the order", ways, "doc:a#in@doc:b doc:b#in@doc:c doc:c#see@user:x", "doc:a#see@user:x", "doc:c#see@user:x doc:b#see@user:x doc:a#see@user:x"},
		{"objects in their order", ways, "doc:c#in@doc:b doc:b#in@doc:a doc:a#see@user:x", "doc:c#see@user:x", "doc:a#see@user:x doc:b#see@user:x doc:c#see@user:x"},
		{"objects as they are first named, not by their texts", ways, "doc:a#ref@doc:z doc:b#see@user:x doc:c#in@doc:b doc:c#in@doc:z doc:z#see@user:x", "doc:c#see@user:x", "doc:z#see@user:x doc:c#see@user:x"},
		{"by their texts where no tuple says else", ways, "doc:b#see@user:x doc:c#in@doc:b doc:c#in@doc:z doc:z#see@user:x", "doc:c#see@user:x", "doc:b#see@user:x doc:c#see@user:x"},
		{"Object ahead of Subject", ways, "doc:a#ref@doc:b doc:a#see@user:x doc:b#see@user:x doc:c#in@doc:a doc:c#in@doc:b", "doc:c#see@user:x", "doc:a#see@user:x doc:c#see@user:x"},
		{"a Subject with a Set is named as well", "type doc\nin = this(doc)\nref = this(doc#ref)\nsee = this(user) | in->see\ntype user\n", "doc:a#ref@doc:z#ref doc:b#see@user:x doc:c#in@doc:b doc:c#in@doc:z doc:z#see@user:x", "doc:c#see@user:x", "doc:z#see@user:x doc:c#see@user:x"},
		{"one object with all its relations ahead of the next", "type doc\na = this(user)\nb = this(user)\nin = this(doc)\nt = in->a | in->b\ntype user\n", "doc:m#b@user:x doc:n#a@user:x doc:z#in@doc:m doc:z#in@doc:n", "doc:z#t@user:x", "doc:m#b@user:x doc:z#t@user:x"},
		{"what a round has found counts in that round", "type doc\na = this(user)\nb = a\nc = this(user)\nd = b | c\ntype user\n", "doc:x#a@user:p doc:x#c@user:p", "doc:x#d@user:p", "doc:x#a@user:p doc:x#b@user:p doc:x#d@user:p"},
		{"what is found a round later comes behind", "type doc\na = c\nb = (a | d) & e\nc = this(user)\nd = this(user)\ne = this(user)\ntype user\n", "doc:x#c@user:p doc:x#d@user:p doc:x#e@user:p", "doc:x#b@user:p", "doc:x#d@user:p doc:x#e@user:p doc:x#b@user:p"},
	})
	const strata = "type doc\nb = this(user) - ban\nban = this(user)\nc = this(user)\nd = b | c\nu = c - b\nv = (b & c) - u\ntype user\n"
	const tuples = "doc:x#b@user:p doc:x#c@user:p doc:x#ban@user:q doc:x#c@user:q doc:x#b@user:r"
	askProofs(t, []proofCase{
		{"strata ahead of names", strata, tuples, "doc:x#d@user:p", "doc:x#c@user:p doc:x#d@user:p"},
		{"the other way", strata, tuples, "doc:x#d@user:r", "doc:x#b@user:r doc:x#d@user:r"},
		{"of three strata", strata, tuples, "doc:x#v@user:p", "doc:x#c@user:p doc:x#b@user:p doc:x#v@user:p"},
		{"taken away in one stratum, there in the next", strata, tuples, "doc:x#u@user:q", "doc:x#c@user:q doc:x#u@user:q"},
		{"strata ahead of objects", "type doc\na = this(user) - ban\nban = this(user)\nin = this(doc)\nlow = this(user)\nt = in->a | in->low\ntype user\n", "doc:a#a@user:p doc:b#low@user:p doc:z#in@doc:a doc:z#in@doc:b", "doc:z#t@user:p", "doc:b#low@user:p doc:z#t@user:p"},
	})
}

func TestProofsOfTwoWays(t *testing.T) {
	const s = "type doc\na = this(user)\nb = a\nc = this(user)\nd = c\nt = b | d\ntype user\n"
	askProofs(t, []proofCase{
		{"the way that is found last goes first", s, "doc:x#a@user:p doc:x#c@user:p", "doc:x#t@user:p", "doc:x#a@user:p doc:x#b@user:p doc:x#t@user:p"},
		{"only the other way", s, "doc:x#c@user:p", "doc:x#t@user:p", "doc:x#c@user:p doc:x#d@user:p doc:x#t@user:p"},
		// The longer way stays, as the shorter one is found later.
		{"not the shortest", "type doc\na = this(user)\nb = a\nc = b\nd = this(user)\nt = c | d\ntype user\n", "doc:x#a@user:p doc:x#d@user:p", "doc:x#t@user:p", "doc:x#a@user:p doc:x#b@user:p doc:x#c@user:p doc:x#t@user:p"},
		// d is asked anyway, so b, which t might take in its place, is not.
		{"a step that another one needs", "type doc\na = this(user)\nb = this(user)\nc = this(user)\nd = a | b\nt = (b | c) & d\ntype user\n", "doc:x#a@user:p doc:x#b@user:p doc:x#c@user:p", "doc:x#t@user:p", "doc:x#b@user:p doc:x#d@user:p doc:x#t@user:p"},
		{"a step that two need, each with a way of its own", "type doc\na = this(user)\nb = this(user)\nc = this(user)\nd = a | b\ne = a | c\nt = d & e\ntype user\n", "doc:x#a@user:p doc:x#b@user:p doc:x#c@user:p", "doc:x#t@user:p", "doc:x#a@user:p doc:x#d@user:p doc:x#e@user:p doc:x#t@user:p"},
		{"and where one is missing", "type doc\na = this(user)\nb = this(user)\nc = this(user)\nd = a | b\ne = a | c\nt = d & e\ntype user\n", "doc:x#b@user:p doc:x#c@user:p", "doc:x#t@user:p", "doc:x#b@user:p doc:x#c@user:p doc:x#d@user:p doc:x#e@user:p doc:x#t@user:p"},
		{"two sets", "type doc\nsee = this(team#m)\ntype team\nm = this(user)\ntype user\n", "doc:x#see@team:b#m doc:x#see@team:a#m team:a#m@user:p team:b#m@user:p", "doc:x#see@user:p", "team:a#m@user:p doc:x#see@user:p"},
		{"two parents", "type doc\nin = this(doc)\nsee = this(user) | in->see\ntype user\n", "doc:x#in@doc:y doc:x#in@doc:b doc:b#see@user:p doc:y#see@user:p", "doc:x#see@user:p", "doc:b#see@user:p doc:x#see@user:p"},
	})
}

func TestProofsBehindManyFacts(t *testing.T) {
	const tall = "type doc\na = this(user)\nb = a\nc = b\nd = c\ne = d\nf = e\ntype user\n"
	var tuples []string
	for i := range impl.MaxTuples {
		tuples = append(tuples, fmt.Sprintf("doc:%02d#a@user:x", i))
	}
	var want []string
	for _, name := range []string{"a", "b", "c", "d", "e", "f"} {
		want = append(want, "doc:39#"+name+"@user:x")
	}
	askProofs(t, []proofCase{{"the last of 240 facts", tall, strings.Join(tuples, " "), "doc:39#f@user:x", strings.Join(want, " ")}})
	for _, turned := range []bool{false, true} {
		for _, n := range []int{1, 33, 34, impl.MaxTuples} {
			s, l, line := chain(t, n, turned)
			for _, at := range []int{0, 1, 6*n - 2, 6*n - 1} {
				list, ok := impl.ProofOf(s, l, line[at])
				if !ok || !slices.Equal(list, line[:at+1]) {
					t.Errorf("the proof of the fact %d of %d: %s", at, 6*n, factsText(list))
				}
				// All are told, though so long a proof is not one that is checked.
				if impl.ProofOk(s, l, list) != (at < 200) {
					t.Errorf("%d steps", at+1)
				}
			}
		}
	}
}

// noProofs asks that nothing follows and nothing has a proof, as these are not right data; f is what might be told else.
func noProofs(t *testing.T, what string, s []impl.Type, l []impl.Tuple, f impl.Fact) {
	t.Helper()
	if impl.Follows(s, l, nil, f) || impl.Follows(s, l, []impl.Fact{f}, f) {
		t.Errorf("%s: %v follows", what, f)
	}
	if impl.ProofOk(s, l, nil) || impl.ProofOk(s, l, []impl.Fact{f}) {
		t.Errorf("%s: %v is a proof", what, f)
	}
	if list, ok := impl.ProofOf(s, l, f); ok || len(list) != 0 {
		t.Errorf("%s: %v has the proof %v", what, f, list)
	}
}

func TestProofsOfWrongSchemas(t *testing.T) {
	a := relation("a", union(this(user()), rel("a")))
	l := sortedTuples(t, "doc:x#a@user:p")
	f := factOf(t, "doc:x#a@user:p")
	right := []impl.Fact{f}
	if list, ok := impl.ProofOf(onDocs(a), l, f); !ok || !slices.Equal(list, right) || !impl.ProofOk(onDocs(a), l, right) || !impl.Follows(onDocs(a), nil, right, f) {
		t.Error("a right schema")
	}
	for what, s := range map[string][]impl.Type{
		"none": nil, "no such type": {typ("doc", a)}, "types fall": {typ("user"), typ("doc", a)}, "relations alike": onDocs(a, a),
		"no expression": onDocs(a, relation("b", nil)), "no such relation": onDocs(a, relation("b", rel("c"))), "no goal": onDocs(a, relation("b", over("a", "a"))),
		"a wrong expression":         onDocs(a, relation("b", append(rel("a"), rel("a")...))),
		"a kid far out":              onDocs(a, relation("b", []impl.Expr{{Kind: impl.RwRel, Name: "a"}, {Kind: impl.RwRel, Name: "a"}, {Kind: impl.RwUnion, Kids: []int64{0, 1 << 40}}})),
		"it takes itself away":       onDocs(relation("a", but(this(user()), rel("a")))),
		"another takes itself away":  onDocs(a, relation("b", but(this(user()), rel("b")))),
		"they take one another away": onDocs(relation("a", but(this(user()), rel("b"))), relation("b", but(this(user()), rel("a")))),
		"a ring that takes away":     onDocs(a, relation("b", rel("c")), relation("c", but(rel("a"), rel("b")))),
	} {
		noProofs(t, what, s, l, f)
		noProofs(t, what+", no tuples", s, nil, f)
	}
}

func TestProofsOfWrongTuples(t *testing.T) {
	s := schemaOf(t, "type doc\nparent = this(doc)\nviewer = this(user) | viewer | parent->viewer\ntype user\n")
	f := factOf(t, "doc:a#viewer@user:x")
	right := sortedTuples(t, "doc:a#viewer@user:x doc:a#viewer@user:y doc:b#parent@doc:a")
	if !impl.ProofOk(s, right, []impl.Fact{f}) {
		t.Fatal("right tuples")
	}
	for _, places := range [][]int{{1, 0, 2}, {0, 2, 1}, {2, 1, 0}, {0, 0, 1}, {0, 1, 1, 2}, {1, 0}} {
		var l []impl.Tuple
		for _, i := range places {
			l = append(l, right[i])
		}
		noProofs(t, fmt.Sprint("out of order ", places), s, l, f)
	}
	for _, text := range []string{"doc:a#none@user:x", "doc:a#viewer@doc:b", "doc:a#viewer@doc:b#viewer", "doc:b#parent@user:x", "doc:b#parent@doc:a#parent", "user:a#viewer@user:x", "team:a#viewer@user:x", "aa:a#viewer@user:x", "zz:a#viewer@user:x"} {
		l, ok := impl.Added(right, tupleOf(t, text))
		if !ok {
			t.Fatal(text)
		}
		noProofs(t, text+" does not fit", s, l, f)
		noProofs(t, text+" does not fit, alone", s, tuplesOf(t, text), f)
	}
	for i := range right {
		for _, wrong := range wrongTuples(right[i]) {
			l := slices.Clone(right)
			l[i] = wrong
			noProofs(t, fmt.Sprintf("%v is not right", wrong), s, l, f)
		}
	}
	many := numbered(impl.MaxTuples + 1)
	noProofs(t, "too many tuples", s, many, impl.Fact{Object: many[0].Object, Rel: "viewer", User: many[0].Subject})
	if list, ok := impl.ProofOf(s, many[:impl.MaxTuples], impl.Fact{Object: many[0].Object, Rel: "viewer", User: many[0].Subject}); !ok || len(list) != 1 {
		t.Error("the most tuples")
	}
}

// A fact that is not right follows from nothing, not even from itself; among what is known it does no harm.
func TestProofsOfWrongFacts(t *testing.T) {
	s := schemaOf(t, "type doc\neditor = this(user)\nviewer = viewer | editor\ntype user\n")
	l := sortedTuples(t, "doc:a#editor@user:x")
	editor, viewer := factOf(t, "doc:a#editor@user:x"), factOf(t, "doc:a#viewer@user:x")
	if !impl.Follows(s, l, []impl.Fact{viewer}, viewer) || !impl.ProofOk(s, l, []impl.Fact{editor, viewer, viewer}) {
		t.Fatal("right facts")
	}
	for _, wrong := range wrongFacts() {
		other := wrong
		if other.Rel == "viewer" {
			other.Rel = "editor"
		}
		if impl.Follows(s, l, nil, wrong) || impl.Follows(s, l, []impl.Fact{wrong}, wrong) || impl.Follows(s, l, []impl.Fact{other, wrong, editor, viewer}, wrong) {
			t.Errorf("%v follows", wrong)
		}
		if !impl.Follows(s, l, []impl.Fact{wrong, editor, wrong}, viewer) || impl.Follows(s, l, []impl.Fact{wrong, other}, viewer) {
			t.Errorf("with %v known", wrong)
		}
		for i := range 4 {
			if list := slices.Insert([]impl.Fact{editor, viewer, viewer}, i, wrong); impl.ProofOk(s, l, list) {
				t.Errorf("%v is a proof", list)
			}
		}
		if impl.ProofOk(s, l, []impl.Fact{wrong}) {
			t.Errorf("%v is a proof", wrong)
		}
		if list, ok := impl.ProofOf(s, l, wrong); ok || len(list) != 0 {
			t.Errorf("%v has the proof %v", wrong, list)
		}
	}
}
