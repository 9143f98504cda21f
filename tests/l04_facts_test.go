package tests

import (
	"fmt"
	"slices"
	"strings"
	"testing"

	"loop.example/g00297/impl"
)

func schemaOf(t *testing.T, text string) []impl.Type {
	t.Helper()
	s, ok := impl.ReadSchema(text)
	if !ok {
		t.Fatalf("not a schema: %q", text)
	}
	return s
}

// sortedTuples puts the tuples of these texts, parted by blanks, in order.
func sortedTuples(t *testing.T, texts string) []impl.Tuple {
	t.Helper()
	list := strings.Fields(texts)
	slices.Sort(list)
	return tuplesOf(t, list...)
}

func factOf(t *testing.T, text string) impl.Fact {
	t.Helper()
	u := tupleOf(t, text)
	if u.Set != "" {
		t.Fatalf("not a fact: %q", text)
	}
	return impl.Fact{Object: u.Object, Rel: u.Rel, User: u.Subject}
}

func factText(f impl.Fact) string {
	return impl.TupleText(impl.Tuple{Object: f.Object, Rel: f.Rel, Subject: f.User})
}

func factsText(list []impl.Fact) string {
	var texts []string
	for _, f := range list {
		texts = append(texts, factText(f))
	}
	return strings.Join(texts, " ")
}

// wantFacts asks for just these facts, in this order.
func wantFacts(t *testing.T, what string, s []impl.Type, l []impl.Tuple, want string) {
	t.Helper()
	if !impl.SchemaOk(s) || !impl.TuplesOk(l) {
		t.Fatalf("%s: not right data", what)
	}
	list := impl.Facts(s, l)
	if got := factsText(list); got != want {
		t.Errorf("%s: the facts are\n%s, not\n%s", what, got, want)
	}
	for i := 1; i < len(list); i++ {
		if !impl.FactAhead(list[i-1], list[i]) {
			t.Errorf("%s: %v is not ahead of %v", what, list[i-1], list[i])
		}
	}
}

type factCase struct {
	what, schema, tuples, want string
}

func askFacts(t *testing.T, cases []factCase) {
	t.Helper()
	for _, c := range cases {
		wantFacts(t, c.what, schemaOf(t, c.schema), sortedTuples(t, c.tuples), c.want)
	}
}

const sharing = "type doc\nbanned = this(user)\neditor = this(user) | owner\nowner = this(user)\nparent = this(doc)\nviewer = (this(user,group#member) | editor | parent->viewer) - banned\ntype group\nmember = this(user,group#member)\ntype user\n"

func TestFactsOfOrdinaryData(t *testing.T) {
	askFacts(t, []factCase{
		{"no tuples", sharing, "", ""},
		{"one", sharing, "doc:a#owner@user:x", "doc:a#editor@user:x doc:a#owner@user:x doc:a#viewer@user:x"},
		{"a relation of no tuples follows", sharing, "doc:a#editor@user:x", "doc:a#editor@user:x doc:a#viewer@user:x"},
		{"the one who is banned is no viewer", sharing, "doc:a#banned@user:x doc:a#owner@user:x doc:a#owner@user:y",
			"doc:a#banned@user:x doc:a#editor@user:x doc:a#editor@user:y doc:a#owner@user:x doc:a#owner@user:y doc:a#viewer@user:y"},
		{"banned below, not above", sharing, "doc:a#viewer@user:x doc:b#parent@doc:a doc:b#banned@user:x doc:c#parent@doc:b",
			"doc:a#viewer@user:x doc:b#banned@user:x doc:b#parent@doc:a doc:c#parent@doc:b"},
		{"banned above, by another way below", sharing, "doc:a#banned@user:x doc:a#viewer@user:x doc:b#parent@doc:a doc:b#viewer@user:x",
			"doc:a#banned@user:x doc:b#parent@doc:a doc:b#viewer@user:x"},
		{"a group within a group", sharing, "doc:a#viewer@group:g#member group:g#member@group:h#member group:h#member@user:x",
			"doc:a#viewer@user:x group:g#member@user:x group:h#member@user:x"},
		{"a banned member", sharing, "doc:a#viewer@group:g#member doc:a#banned@user:x group:g#member@user:x group:g#member@user:y",
			"doc:a#banned@user:x doc:a#viewer@user:y group:g#member@user:x group:g#member@user:y"},
		{"both ways to one fact", sharing, "doc:a#viewer@user:x doc:a#owner@user:x doc:a#viewer@group:g#member group:g#member@user:x",
			"doc:a#editor@user:x doc:a#owner@user:x doc:a#viewer@user:x group:g#member@user:x"},
		{"another object's tuples", "type doc\na = this(user)\nb = a\ntype user\n", "doc:x#a@user:p doc:y#a@user:q", "doc:x#a@user:p doc:x#b@user:p doc:y#a@user:q doc:y#b@user:q"},
		{"one id in two types", "type doc\na = this(doc,user)\ntype team\na = this(user)\ntype user\n", "doc:x#a@doc:x doc:x#a@user:x team:x#a@user:x", "doc:x#a@doc:x doc:x#a@user:x team:x#a@user:x"},
	})
	wantFacts(t, "a schema of no types", nil, nil, "")
	wantFacts(t, "types without relations", []impl.Type{typ("a"), typ("b")}, nil, "")
}

func TestFactsOfEachKindOfNode(t *testing.T) {
	const head = "type doc\na = this(user)\nb = this(user)\nc = this(user)\n"
	const tuples = "doc:x#a@user:p doc:x#a@user:q doc:x#a@user:r doc:x#b@user:q doc:x#b@user:r doc:x#c@user:r doc:x#c@user:s"
	const base = "doc:x#a@user:p doc:x#a@user:q doc:x#a@user:r doc:x#b@user:q doc:x#b@user:r doc:x#c@user:r doc:x#c@user:s"
	for e, users := range map[string]string{
		"a": "pqr", "c": "rs", "a | b": "pqr", "b | c": "qrs", "a | b | c": "pqrs", "a & b": "qr", "b & c": "r", "a & b & c": "r", "a - b": "p", "b - a": "", "c - b": "s", "a - c": "pq",
		"b & b": "qr", "a | a": "pqr", "a - a": "",
		// The second kid is a whole expression; one within another.
		"a - (b & c)": "pq", "a - (b | c)": "p", "a - (b - c)": "pr", "(a - b) - c": "p", "(a - b) | c": "prs", "(a | c) - b": "ps", "a & (b - c)": "q", "a - (a - b)": "qr", "a - (a - (a - b))": "p", "a - (b - (b - c))": "pq", "(a | b | c) - (b - (a & c))": "prs",
		"(b - c) | (c - b)": "qs", "(a - b) & (a - c)": "p", "(a & b) - (b & c)": "q",
	} {
		s := schemaOf(t, head+"d = "+e+"\ntype user\n")
		want := base
		for _, u := range users {
			want += " doc:x#d@user:" + string(u)
		}
		wantFacts(t, e, s, sortedTuples(t, tuples), want)
	}
}

// What the own tuples say counts where this stands, and there alone.
func TestFactsOfTuplesWithinAnExpression(t *testing.T) {
	askFacts(t, []factCase{
		{"taken away", "type doc\na = this(user)\nb = a - this(user)\ntype user\n", "doc:x#a@user:p doc:x#a@user:q doc:x#b@user:p doc:x#b@user:r", "doc:x#a@user:p doc:x#a@user:q doc:x#b@user:q"},
		{"taken away, of a set", "type doc\na = this(user)\nb = a - this(team#m)\ntype team\nm = this(user)\ntype user\n", "doc:x#a@user:p doc:x#a@user:q doc:x#b@team:t#m team:t#m@user:p", "doc:x#a@user:p doc:x#a@user:q doc:x#b@user:q team:t#m@user:p"},
		{"both", "type doc\na = this(user)\nb = this(user) & a\ntype user\n", "doc:x#a@user:p doc:x#b@user:p doc:x#b@user:q doc:y#a@user:q", "doc:x#a@user:p doc:x#b@user:p doc:y#a@user:q"},
		{"a tuple is no fact", "type doc\na = this(user) & b\nb = this(user)\nc = this(doc#a)\ntype user\n", "doc:x#a@user:p doc:x#c@doc:x#a", ""},
		{"taken away from what was taken away", "type doc\na = this(user)\nb = this(user)\nc = a - (b - this(user))\ntype user\n", "doc:x#a@user:p doc:x#a@user:q doc:x#b@user:p doc:x#b@user:q doc:x#c@user:q", "doc:x#a@user:p doc:x#a@user:q doc:x#b@user:p doc:x#b@user:q doc:x#c@user:q"},
	})
}

func TestFactsOfRelationsThatNameThemselves(t *testing.T) {
	const members = "type group\nmember = this(user,group#member)\ntype user\n"
	const parents = "type doc\nparent = this(doc)\nviewer = this(user) | parent->viewer\ntype user\n"
	askFacts(t, []factCase{
		{"by a name alone", "type doc\na = a\nb = this(user)\ntype user\n", "doc:x#b@user:p", "doc:x#b@user:p"},
		{"by a name", "type doc\na = this(user) | a\ntype user\n", "doc:x#a@user:p", "doc:x#a@user:p"},
		{"by a name, both", "type doc\na = this(user) & a\ntype user\n", "doc:x#a@user:p", ""},
		{"by a name, but", "type doc\na = a - this(user)\nb = this(user)\ntype user\n", "doc:x#a@user:p doc:x#b@user:q", "doc:x#b@user:q"},
		{"by a set of the same object", members, "group:g#member@group:g#member group:g#member@user:x", "group:g#member@user:x"},
		{"by a set of the same object alone", members, "group:g#member@group:g#member", ""},
		{"by sets in a ring of two", members, "group:g#member@group:h#member group:h#member@group:g#member group:h#member@user:x", "group:g#member@user:x group:h#member@user:x"},
		{"by sets in a ring of three", members, "group:a#member@group:b#member group:b#member@group:c#member group:c#member@group:a#member group:a#member@user:x group:c#member@user:y",
			"group:a#member@user:x group:a#member@user:y group:b#member@user:x group:b#member@user:y group:c#member@user:x group:c#member@user:y"},
		{"by sets in a ring of nobody", members, "group:a#member@group:b#member group:b#member@group:c#member group:c#member@group:a#member group:d#member@user:x", "group:d#member@user:x"},
		{"a ring is not entered from outside it", members, "group:a#member@group:b#member group:b#member@group:a#member group:c#member@group:a#member group:c#member@user:x", "group:c#member@user:x"},
		{"over itself", parents, "doc:a#parent@doc:a doc:a#viewer@user:x", "doc:a#parent@doc:a doc:a#viewer@user:x"},
		{"over itself alone", parents, "doc:a#parent@doc:a", "doc:a#parent@doc:a"},
		{"over a ring", parents, "doc:a#parent@doc:b doc:b#parent@doc:c doc:c#parent@doc:a doc:b#viewer@user:x",
			"doc:a#parent@doc:b doc:a#viewer@user:x doc:b#parent@doc:c doc:b#viewer@user:x doc:c#parent@doc:a doc:c#viewer@user:x"},
		{"over two ways", parents, "doc:a#parent@doc:b doc:a#parent@doc:c doc:b#parent@doc:d doc:c#parent@doc:d doc:d#viewer@user:x",
			"doc:a#parent@doc:b doc:a#parent@doc:c doc:a#viewer@user:x doc:b#parent@doc:d doc:b#viewer@user:x doc:c#parent@doc:d doc:c#viewer@user:x doc:d#viewer@user:x"},
		{"below an object, not above it", parents, "doc:a#parent@doc:b doc:a#viewer@user:x", "doc:a#parent@doc:b doc:a#viewer@user:x"},
		{"over all that is both", "type doc\nopen = this(user)\nparent = this(doc)\nviewer = (this(user) | parent->viewer) & open\ntype user\n", "doc:a#parent@doc:b doc:b#parent@doc:c doc:c#viewer@user:x doc:c#open@user:x doc:a#open@user:x",
			"doc:a#open@user:x doc:a#parent@doc:b doc:b#parent@doc:c doc:c#open@user:x doc:c#viewer@user:x"},
	})
}

func TestFactsRoundThroughSeveral(t *testing.T) {
	askFacts(t, []factCase{
		{"two that name one another", "type doc\na = b\nb = a\nc = this(user)\ntype user\n", "doc:x#c@user:p", "doc:x#c@user:p"},
		{"two that name one another, one has tuples", "type doc\na = b\nb = this(user) | a\ntype user\n", "doc:x#b@user:p", "doc:x#a@user:p doc:x#b@user:p"},
		{"two that name one another, both have tuples", "type doc\na = this(user) | b\nb = this(user) | a\ntype user\n", "doc:x#a@user:p doc:x#b@user:q", "doc:x#a@user:p doc:x#a@user:q doc:x#b@user:p doc:x#b@user:q"},
		{"each asks for the other", "type doc\na = this(user) & b\nb = this(user) & a\ntype user\n", "doc:x#a@user:p doc:x#b@user:p", ""},
		{"three by names", "type doc\na = b\nb = c\nc = this(user) | a\ntype user\n", "doc:x#c@user:p", "doc:x#a@user:p doc:x#b@user:p doc:x#c@user:p"},
		{"six by names, against their order", "type doc\na = b\nb = c\nc = d\nd = e\ne = f\nf = this(user) | a\ntype user\n", "doc:x#f@user:p", "doc:x#a@user:p doc:x#b@user:p doc:x#c@user:p doc:x#d@user:p doc:x#e@user:p doc:x#f@user:p"},
		{"by sets of two types", "type group\nmember = this(user,team#player)\ntype team\nplayer = this(user,group#member)\ntype user\n", "group:g#member@team:t#player team:t#player@group:g#member team:t#player@user:x group:g#member@user:y",
			"group:g#member@user:x group:g#member@user:y team:t#player@user:x team:t#player@user:y"},
		{"by sets of two relations", "type group\na = this(group#b)\nb = this(user,group#a)\ntype user\n", "group:g#a@group:h#b group:h#b@group:g#a group:h#b@user:x", "group:g#a@user:x group:h#b@user:x"},
		{"over two types", "type doc\nin = this(folder)\nviewer = this(user) | in->viewer\ntype folder\nof = this(doc)\nviewer = of->viewer\ntype user\n", "doc:a#in@folder:f folder:f#of@doc:b doc:b#in@folder:g folder:g#of@doc:a doc:b#viewer@user:x",
			"doc:a#in@folder:f doc:a#viewer@user:x doc:b#in@folder:g doc:b#viewer@user:x folder:f#of@doc:b folder:f#viewer@user:x folder:g#of@doc:a folder:g#viewer@user:x"},
		{"by a name, a set and over", "type doc\nin = this(folder)\nreader = in->reader\nviewer = reader\ntype folder\nreader = this(user,group#member)\ntype group\nmember = this(doc#viewer)\ntype user\n",
			"doc:a#in@folder:f folder:f#reader@group:g#member group:g#member@doc:b#viewer doc:b#in@folder:h folder:h#reader@user:x group:g#member@doc:a#viewer",
			"doc:a#in@folder:f doc:a#reader@user:x doc:a#viewer@user:x doc:b#in@folder:h doc:b#reader@user:x doc:b#viewer@user:x folder:f#reader@user:x folder:h#reader@user:x group:g#member@user:x"},
	})
}

func TestFactsOfWhatIsTakenAway(t *testing.T) {
	askFacts(t, []factCase{
		{"one that takes away itself", "type doc\na = this(user)\nb = this(user) - a\nc = this(user) - b\ntype user\n", "doc:x#a@user:p doc:x#b@user:p doc:x#b@user:q doc:x#c@user:p doc:x#c@user:q doc:x#c@user:r",
			"doc:x#a@user:p doc:x#b@user:q doc:x#c@user:p doc:x#c@user:r"},
		{"against the order of names", "type doc\na = d - b\nb = d - c\nc = this(user)\nd = this(user)\ntype user\n", "doc:x#c@user:p doc:x#d@user:p doc:x#d@user:q",
			"doc:x#a@user:p doc:x#b@user:q doc:x#c@user:p doc:x#d@user:p doc:x#d@user:q"},
		{"what comes late in its stratum", "type doc\na = e - b\nb = c\nc = d\nd = this(user)\ne = this(user)\ntype user\n", "doc:x#d@user:p doc:x#e@user:p doc:x#e@user:q",
			"doc:x#a@user:q doc:x#b@user:p doc:x#c@user:p doc:x#d@user:p doc:x#e@user:p doc:x#e@user:q"},
		{"over", "type doc\nban = this(user)\nin = this(doc)\nsee = this(user) - in->ban\ntype user\n", "doc:x#in@doc:y doc:y#ban@user:p doc:x#see@user:p doc:x#see@user:q doc:y#see@user:p",
			"doc:x#in@doc:y doc:x#see@user:q doc:y#ban@user:p doc:y#see@user:p"},
		{"a ring", "type doc\na = b - d\nb = this(user) | c\nc = b\nd = this(user)\ntype user\n", "doc:x#b@user:p doc:x#b@user:q doc:x#d@user:q",
			"doc:x#a@user:p doc:x#b@user:p doc:x#b@user:q doc:x#c@user:p doc:x#c@user:q doc:x#d@user:q"},
		{"a ring that leans on what is less", "type group\nban = this(user,group#ban)\nmember = this(user,group#member) - ban\ntype user\n", "group:g#member@group:h#member group:h#member@group:g#member group:g#member@user:x group:h#member@user:y group:g#ban@user:y group:h#ban@group:h#ban",
			"group:g#ban@user:y group:g#member@user:x group:h#member@user:x group:h#member@user:y"},
		{"of another user", "type doc\na = this(user)\nb = this(user) - a\ntype user\n", "doc:x#a@user:p doc:x#b@user:q", "doc:x#a@user:p doc:x#b@user:q"},
		{"of another object", "type doc\na = this(user)\nb = this(user) - a\ntype user\n", "doc:x#a@user:p doc:y#b@user:p", "doc:x#a@user:p doc:y#b@user:p"},
	})
}

func TestFactsOverSeveralGoals(t *testing.T) {
	const s = "type doc\nin = this(doc,folder,user)\nsee = this(user) | in->see\ntype folder\nsee = this(user)\ntype user\n"
	askFacts(t, []factCase{
		{"one type lacks the relation", s, "doc:a#in@doc:b doc:a#in@folder:f doc:a#in@user:u doc:b#see@user:x folder:f#see@user:y", "doc:a#in@doc:b doc:a#in@folder:f doc:a#in@user:u doc:a#see@user:x doc:a#see@user:y doc:b#see@user:x folder:f#see@user:y"},
		{"only the type that lacks it", s, "doc:a#in@user:u doc:b#see@user:u", "doc:a#in@user:u doc:b#see@user:u"},
		{"an object no tuple is about", s, "doc:a#in@folder:f doc:a#in@doc:b", "doc:a#in@doc:b doc:a#in@folder:f"},
		{"the way itself is told of another relation", "type doc\nby = this(doc)\nin = this(doc)\nsee = this(user) | in->see\ntype user\n", "doc:a#by@doc:b doc:b#see@user:x", "doc:a#by@doc:b doc:b#see@user:x"},
		{"the way named as well", "type doc\nin = this(doc)\nsee = in->in\ntype user\n", "doc:a#in@doc:b doc:b#in@doc:c doc:c#in@doc:a", "doc:a#in@doc:b doc:a#see@doc:c doc:b#in@doc:c doc:b#see@doc:a doc:c#in@doc:a doc:c#see@doc:b"},
	})
}

func TestFactsOfSetsOfNobody(t *testing.T) {
	askFacts(t, []factCase{
		{"no tuple is about the object", sharing, "doc:a#viewer@group:g#member", ""},
		{"no tuple of that relation is", sharing, "doc:a#viewer@group:g#member group:h#member@user:x", "group:h#member@user:x"},
		{"the set of itself", sharing, "group:g#member@group:g#member", ""},
		// A Subject with a Set is no User, though the object is one of another tuple.
		{"a subject that is also a user", "type doc\nin = this(doc)\nsee = this(doc,doc#see)\ntype user\n", "doc:a#see@doc:b#see doc:c#in@doc:b", "doc:c#in@doc:b"},
		{"a subject itself and its set", "type doc\nsee = this(doc,doc#see)\n", "doc:a#see@doc:b doc:a#see@doc:b#see doc:b#see@doc:c", "doc:a#see@doc:b doc:a#see@doc:c doc:b#see@doc:c"},
		{"an object that is its own user", "type doc\nsee = this(doc,doc#see)\n", "doc:a#see@doc:a doc:b#see@doc:a#see", "doc:a#see@doc:a doc:b#see@doc:a"},
	})
}

func TestFactsInOrder(t *testing.T) {
	s := schemaOf(t, "type doc\nab = this(doc,docs,user)\nabc = ab\nb = ab\ntype docs\na = this(doc,docs,user)\ntype user\n")
	l := sortedTuples(t, "doc:a#ab@user:x doc:a1#ab@user:x doc:a_#ab@user:x doc:aa#ab@user:x doc:1#ab@user:x doc:_#ab@user:x doc:a#ab@user:x1 doc:a#ab@user:xa doc:a#ab@user:x_ doc:a#ab@doc:z doc:a#ab@docs:a docs:0#a@user:x")
	var want []string
	for _, u := range l {
		text := impl.TupleText(u)
		want = append(want, text)
		if u.Object.Type == "doc" {
			want = append(want, strings.Replace(text, "#ab@", "#abc@", 1), strings.Replace(text, "#ab@", "#b@", 1))
		}
	}
	slices.Sort(want)
	wantFacts(t, "texts in order", s, l, strings.Join(want, " "))
	wantFacts(t, "by hand", s, sortedTuples(t, "doc:a#ab@user:x doc:a#ab@doc:z doc:a1#ab@user:x docs:0#a@user:x doc:_#ab@user:x"),
		"doc:_#ab@user:x doc:_#abc@user:x doc:_#b@user:x doc:a#ab@doc:z doc:a#ab@user:x doc:a#abc@doc:z doc:a#abc@user:x doc:a#b@doc:z doc:a#b@user:x doc:a1#ab@user:x doc:a1#abc@user:x doc:a1#b@user:x docs:0#a@user:x")
}

func TestFactAhead(t *testing.T) {
	texts := []string{"a:_#b@c:d", "a:a#b@c:d", "a:a#b@c:da", "a:a#b@ca:d", "a:a#ba@c:d", "a:a1#b@c:d", "a:aa#b@c:d", "aa:a#b@c:d", "b:a#b@c:d"}
	if !slices.IsSorted(texts) {
		t.Fatal(texts)
	}
	for i, a := range texts {
		for j, b := range texts {
			if impl.FactAhead(factOf(t, a), factOf(t, b)) != (i < j) {
				t.Error(a, b)
			}
		}
	}
	least, most := impl.Fact{Object: impl.Object{Type: "a", Id: "0"}, Rel: "a", User: impl.Object{Type: "a", Id: "0"}}, factOf(t, "z:z#z@z:z")
	for _, wrong := range wrongFacts() {
		if impl.FactAhead(least, wrong) || impl.FactAhead(wrong, most) || impl.FactAhead(wrong, wrong) {
			t.Errorf("%v has an order", wrong)
		}
	}
}

// wrongFacts are made of doc:a#viewer@user:x, each with one thing that is not right.
func wrongFacts() []impl.Fact {
	right := impl.Fact{Object: impl.Object{Type: "doc", Id: "a"}, Rel: "viewer", User: impl.Object{Type: "user", Id: "x"}}
	list := []impl.Fact{{}}
	for _, word := range []string{"", "this", "A", "a b", "abcdefghijklm", "a#b", "a:b", "a@b", "é", "a\x00", "viewer@user:x"} {
		f := right
		f.Object.Type = word
		g := right
		g.Rel = word
		h := right
		h.User.Type = word
		list = append(list, f, g, h)
		if word != "this" {
			f, g := right, right
			f.Object.Id, g.User.Id = word, word
			list = append(list, f, g)
		}
	}
	return list
}

func TestFactsOfMostTuples(t *testing.T) {
	id := func(i int) string { return fmt.Sprintf("%02d", i) }
	up := schemaOf(t, "type doc\na = b\nb = c\nc = d\nd = this(user) | parent->a\nparent = this(doc)\ntype user\n")
	down := schemaOf(t, "type group\nmember = this(user,group#member)\ntype user\n")
	for _, n := range []int{1, 2, impl.MaxTuples - 1, impl.MaxTuples, impl.MaxTuples + 1} {
		// In both directions: the user stands at the last object of the order, and at the first one.
		for _, turned := range []bool{false, true} {
			at := func(i int) string {
				if turned {
					return id(n - 1 - i)
				}
				return id(i)
			}
			docs, groups := "doc:"+at(0)+"#d@user:x", "group:"+at(0)+"#member@user:x"
			for i := 1; i < n; i++ {
				docs += " doc:" + at(i) + "#parent@doc:" + at(i-1)
				groups += " group:" + at(i) + "#member@group:" + at(i-1) + "#member"
			}
			var wantDocs, wantGroups []string
			for i := range n {
				for _, rel := range []string{"a", "b", "c", "d"} {
					wantDocs = append(wantDocs, "doc:"+at(i)+"#"+rel+"@user:x")
				}
				wantGroups = append(wantGroups, "group:"+at(i)+"#member@user:x")
				if i > 0 {
					wantDocs = append(wantDocs, "doc:"+at(i)+"#parent@doc:"+at(i-1))
				}
			}
			slices.Sort(wantDocs)
			slices.Sort(wantGroups)
			if n > impl.MaxTuples {
				noFacts(t, "too many tuples", up, sortedTuples(t, docs), factOf(t, "doc:00#a@user:x"))
				noFacts(t, "too many tuples", down, sortedTuples(t, groups), factOf(t, "group:00#member@user:x"))
				continue
			}
			wantFacts(t, "parents", up, sortedTuples(t, docs), strings.Join(wantDocs, " "))
			wantFacts(t, "members", down, sortedTuples(t, groups), strings.Join(wantGroups, " "))
		}
	}
}

// A ladder of types, each relation of a stratum of its own and taking away the one ahead of it: every second one has the user.
func TestFactsOfALadder(t *testing.T) {
	var s []impl.Type
	var tuples, want []string
	var below []impl.Expr
	steps, last := 0, ""
	for _, name := range names(impl.MaxTypes - 1) {
		var list []impl.Relation
		rels := names(impl.MaxRels)
		if last != "" {
			rels = rels[1:]
			way := name + ":o#na@" + last + ":o"
			list = append(list, relation("na", this(impl.Allowed{Type: last})))
			tuples, want = append(tuples, way), append(want, way)
		}
		for _, r := range rels {
			e := this(user())
			if below != nil {
				e = but(e, below)
			}
			list, below = append(list, relation(r, e)), rel(r)
			text := name + ":o#" + r + "@user:x"
			tuples = append(tuples, text)
			if steps%2 == 0 {
				want = append(want, text)
			}
			steps++
		}
		s, last, below = append(s, typ(name, list...)), name, over("na", rels[len(rels)-1])
	}
	s = append(s, typ("user"))
	slices.Sort(want)
	wantStratum(t, s, "ne", "nf", int64(steps)-1)
	wantFacts(t, "a ladder", s, sortedTuples(t, strings.Join(tuples, " ")), strings.Join(want, " "))
}

// noFacts asks that nothing is told, as these are not right data; f is what might be told else.
func noFacts(t *testing.T, what string, s []impl.Type, l []impl.Tuple, f impl.Fact) {
	t.Helper()
	if list := impl.Facts(s, l); len(list) != 0 {
		t.Errorf("%s: there are facts: %v", what, list)
	}
	if impl.Check(s, l, f) || len(impl.UsersOf(s, l, f.Object, f.Rel)) != 0 || len(impl.ObjectsOf(s, l, f.Object.Type, f.Rel, f.User)) != 0 {
		t.Errorf("%s: %v is told", what, f)
	}
}

func TestFactsOfWrongSchemas(t *testing.T) {
	a := relation("a", this(user()))
	l := sortedTuples(t, "doc:x#a@user:p")
	f := factOf(t, "doc:x#a@user:p")
	wantFacts(t, "a right one", onDocs(a), l, "doc:x#a@user:p")
	for what, s := range map[string][]impl.Type{
		"none": nil, "no such type": {typ("doc", a)}, "types fall": {typ("user"), typ("doc", a)}, "types alike": {typ("doc", a), typ("user"), typ("user")},
		"relations alike": onDocs(a, a), "relations fall": onDocs(relation("b", rel("a")), a), "a wrong name": onDocs(a, relation("this", rel("a"))),
		"no expression": onDocs(a, relation("b", nil)), "a wrong expression": onDocs(a, relation("b", append(rel("a"), rel("a")...))),
		"no such relation": onDocs(a, relation("b", rel("c"))), "no such set": onDocs(a, relation("b", this(impl.Allowed{Type: "user", Set: "a"}))),
		"no way": onDocs(a, relation("b", over("c", "a"))), "no goal": onDocs(a, relation("b", over("a", "a"))),
		"it takes itself away":       onDocs(relation("a", but(this(user()), rel("a")))),
		"another takes itself away":  onDocs(a, relation("b", but(this(user()), rel("b")))),
		"they take one another away": onDocs(relation("a", but(this(user()), rel("b"))), relation("b", but(this(user()), rel("a")))),
		"a ring that takes away":     onDocs(a, relation("b", rel("c")), relation("c", but(rel("a"), rel("b")))),
		"too many types":             {typ("doc", a), typ("ea"), typ("eb"), typ("ec"), typ("ed"), typ("ee"), typ("user")},
		"a kid far out":              onDocs(a, relation("b", []impl.Expr{{Kind: impl.RwRel, Name: "a"}, {Kind: impl.RwRel, Name: "a"}, {Kind: impl.RwUnion, Kids: []int64{0, 1 << 40}}})),
	} {
		noFacts(t, what, s, l, f)
		if len(impl.Facts(s, nil)) != 0 {
			t.Errorf("%s: facts without tuples", what)
		}
	}
}

func TestFactsOfWrongTuples(t *testing.T) {
	s := schemaOf(t, sharing)
	f := factOf(t, "doc:a#viewer@user:x")
	right := sortedTuples(t, "doc:a#owner@user:x doc:a#viewer@user:x doc:b#parent@doc:a")
	wantFacts(t, "right ones", s, right, "doc:a#editor@user:x doc:a#owner@user:x doc:a#viewer@user:x doc:b#parent@doc:a doc:b#viewer@user:x")
	for _, places := range [][]int{{1, 0, 2}, {0, 2, 1}, {2, 1, 0}, {0, 0, 1}, {0, 1, 1, 2}, {1, 0}} {
		var l []impl.Tuple
		for _, i := range places {
			l = append(l, right[i])
		}
		noFacts(t, fmt.Sprint("out of order ", places), s, l, f)
	}
	for _, text := range []string{
		"doc:a#none@user:x", "doc:a#viewer@doc:b", "doc:a#viewer@group:g", "doc:a#viewer@group:g#none", "doc:a#owner@group:g#member", "doc:a#parent@doc:b#viewer", "doc:b#parent@user:x",
		"user:a#viewer@user:x", "team:a#viewer@user:x", "doc:a#viewer@team:x", "group:g#member@doc:a#viewer", "group:g#viewer@user:x", "aa:a#viewer@user:x", "zz:a#viewer@user:x",
	} {
		l, ok := impl.Added(right, tupleOf(t, text))
		if !ok {
			t.Fatal(text)
		}
		noFacts(t, text+" does not fit", s, l, f)
		noFacts(t, text+" does not fit, alone", s, tuplesOf(t, text), factOf(t, strings.TrimSuffix(strings.TrimSuffix(strings.TrimSuffix(text, "#none"), "#member"), "#viewer")))
	}
	for i := range right {
		for _, wrong := range wrongTuples(right[i]) {
			l := slices.Clone(right)
			l[i] = wrong
			noFacts(t, fmt.Sprintf("%v is not right", wrong), s, l, f)
		}
	}
	noFacts(t, "the zero value", s, []impl.Tuple{{}}, f)
}

func TestFactsThatTheDataDoNotKnow(t *testing.T) {
	s := schemaOf(t, sharing)
	l := sortedTuples(t, "doc:a#viewer@group:g#member group:g#member@user:x doc:b#parent@doc:a doc:a#owner@user:y")
	for _, text := range []string{
		"doc:a#viewer@user:z", "doc:a#viewer@doc:a", "doc:a#viewer@group:g", "doc:c#viewer@user:x", "doc:a#none@user:x", "doc:a#member@user:x", "user:x#viewer@user:x", "group:g#viewer@user:x", "team:a#viewer@user:x", "doc:a#viewer@team:x", "doc:a#parent@doc:b", "doc:b#owner@user:y", "group:g#member@user:y", "doc:b#parent@user:x",
	} {
		f := factOf(t, text)
		if impl.Check(s, l, f) {
			t.Errorf("%s is a fact", text)
		}
		if slices.Contains(impl.UsersOf(s, l, f.Object, f.Rel), f.User) || slices.Contains(impl.ObjectsOf(s, l, f.Object.Type, f.Rel, f.User), f.Object) {
			t.Errorf("%s is found", text)
		}
	}
	if !impl.Check(s, l, factOf(t, "doc:a#viewer@user:x")) || !impl.Check(s, l, factOf(t, "doc:b#viewer@user:y")) {
		t.Error("these are facts")
	}
	for _, wrong := range wrongFacts() {
		if impl.Check(s, l, wrong) {
			t.Errorf("%v is a fact", wrong)
		}
		if slices.Contains(impl.UsersOf(s, l, wrong.Object, wrong.Rel), wrong.User) || slices.Contains(impl.ObjectsOf(s, l, wrong.Object.Type, wrong.Rel, wrong.User), wrong.Object) {
			t.Errorf("%v is found", wrong)
		}
	}
}

func objectsText(list []impl.Object) string {
	var texts []string
	for _, o := range list {
		texts = append(texts, impl.ObjectText(o))
	}
	return strings.Join(texts, " ")
}

func TestLookups(t *testing.T) {
	s := schemaOf(t, sharing)
	l := sortedTuples(t, "doc:a#viewer@group:g#member doc:a1#parent@doc:a doc:b#parent@doc:a doc:b#banned@user:x doc:a#owner@user:y doc:_#viewer@user:y doc:a#viewer@user:x1 group:g#member@user:x group:y#member@user:y")
	for key, want := range map[[3]string]string{
		{"doc", "a", "viewer"}: "user:x user:x1 user:y", {"doc", "b", "viewer"}: "user:x1 user:y", {"doc", "a1", "viewer"}: "user:x user:x1 user:y", {"doc", "a", "owner"}: "user:y", {"doc", "b", "parent"}: "doc:a", {"group", "g", "member"}: "user:x",
		{"doc", "a", "banned"}: "", {"doc", "c", "viewer"}: "", {"doc", "a", "none"}: "", {"doc", "a", ""}: "", {"doc", "", "viewer"}: "", {"", "a", "viewer"}: "", {"group", "a", "viewer"}: "", {"", "", ""}: "", {"user", "x", "viewer"}: "", {"doc", "a", "this"}: "",
	} {
		if got := objectsText(impl.UsersOf(s, l, impl.Object{Type: key[0], Id: key[1]}, key[2])); got != want {
			t.Errorf("the users of %v are %q, not %q", key, got, want)
		}
	}
	for key, want := range map[[4]string]string{
		{"doc", "viewer", "user", "y"}: "doc:_ doc:a doc:a1 doc:b", {"doc", "viewer", "user", "x"}: "doc:a doc:a1", {"doc", "parent", "doc", "a"}: "doc:a1 doc:b", {"group", "member", "user", "y"}: "group:y", {"doc", "owner", "user", "y"}: "doc:a",
		{"doc", "owner", "user", "x"}: "", {"group", "viewer", "user", "y"}: "", {"user", "viewer", "user", "y"}: "", {"", "viewer", "user", "y"}: "", {"doc", "", "user", "y"}: "", {"doc", "viewer", "", "y"}: "", {"doc", "viewer", "user", ""}: "", {"doc", "viewer", "doc", "y"}: "", {"doc", "none", "user", "y"}: "", {"doc", "viewer", "group", "g"}: "", {"", "", "", ""}: "",
	} {
		if got := objectsText(impl.ObjectsOf(s, l, key[0], key[1], impl.Object{Type: key[2], Id: key[3]})); got != want {
			t.Errorf("the objects of %v are %q, not %q", key, got, want)
		}
	}
}
