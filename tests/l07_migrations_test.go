package tests

import (
	"fmt"
	"slices"
	"strings"
	"testing"

	"loop.example/g00297/impl"
)

// migration is a call of Renamed, Inlined or Pruned; want is the schema's text, "" where it is refused. A ; in a text stands for the end of a line.
type migration struct {
	what, schema, call, want string
}

func lines(text string) string {
	if text == "" {
		return ""
	}
	return strings.ReplaceAll(text, "; ", "\n") + "\n"
}

// migrate reads rename TYPE FROM TO, inline TYPE REL or prune TYPE REL; a dot stands for the empty name.
func migrate(t *testing.T, s []impl.Type, call string) ([]impl.Type, bool) {
	t.Helper()
	words := strings.Fields(call)
	for i := range words {
		words[i] = strings.TrimPrefix(words[i], ".")
	}
	switch {
	case words[0] == "rename" && len(words) == 4:
		return impl.Renamed(s, words[1], words[2], words[3])
	case words[0] == "inline" && len(words) == 3:
		return impl.Inlined(s, words[1], words[2])
	case words[0] == "prune" && len(words) == 3:
		return impl.Pruned(s, words[1], words[2])
	}
	t.Fatalf("not a call: %q", call)
	return nil, false
}

func askMigrations(t *testing.T, cases []migration) {
	t.Helper()
	for _, c := range cases {
		s := schemaOf(t, lines(c.schema))
		old := copySchema(s)
		got, ok := migrate(t, s, c.call)
		if ok != (c.want != "") || impl.SchemaText(got) != lines(c.want) || !ok && len(got) > 0 {
			t.Errorf("%s: %s tells %v and\n%s, not\n%s", c.what, c.call, ok, impl.SchemaText(got), lines(c.want))
		}
		wantApart(t, c.what, s, got)
		if !same(s, old) {
			t.Errorf("%s: an argument was written into", c.what)
		}
		words := strings.Fields(c.call)
		if !ok || words[0] != "rename" {
			continue
		}
		if back, ok := impl.Renamed(got, words[1], words[3], words[2]); !ok || impl.SchemaText(back) != lines(c.schema) {
			t.Errorf("%s: renamed back it is %v,\n%s", c.what, ok, impl.SchemaText(back))
		}
	}
}

// refuseAll asks that these calls are refused.
func refuseAll(t *testing.T, schema string, calls ...string) {
	t.Helper()
	for _, call := range calls {
		askMigrations(t, []migration{{"refused", schema, call, ""}})
	}
}

const sharingLines = "type doc; banned = this(user); editor = this(user) | owner; owner = this(user); parent = this(doc); viewer = (this(user,group#member) | editor | parent->viewer) - banned; type group; member = this(user,group#member); type user"

func TestRenamedOfOrdinarySchemas(t *testing.T) {
	askMigrations(t, []migration{
		{"a relation over itself", sharingLines, "rename doc viewer see", "type doc; banned = this(user); editor = this(user) | owner; owner = this(user); parent = this(doc); see = (this(user,group#member) | editor | parent->see) - banned; type group; member = this(user,group#member); type user"},
		{"to the front", sharingLines, "rename doc viewer a", "type doc; a = (this(user,group#member) | editor | parent->a) - banned; banned = this(user); editor = this(user) | owner; owner = this(user); parent = this(doc); type group; member = this(user,group#member); type user"},
		{"the first one to the end", sharingLines, "rename doc banned z", "type doc; editor = this(user) | owner; owner = this(user); parent = this(doc); viewer = (this(user,group#member) | editor | parent->viewer) - z; z = this(user); type group; member = this(user,group#member); type user"},
		{"a way", sharingLines, "rename doc parent up", "type doc; banned = this(user); editor = this(user) | owner; owner = this(user); up = this(doc); viewer = (this(user,group#member) | editor | up->viewer) - banned; type group; member = this(user,group#member); type user"},
		{"a name below", sharingLines, "rename doc owner boss", "type doc; banned = this(user); boss = this(user); editor = this(user) | boss; parent = this(doc); viewer = (this(user,group#member) | editor | parent->viewer) - banned; type group; member = this(user,group#member); type user"},
		{"a set of its own type and of another one", sharingLines, "rename group member in", "type doc; banned = this(user); editor = this(user) | owner; owner = this(user); parent = this(doc); viewer = (this(user,group#in) | editor | parent->viewer) - banned; type group; in = this(user,group#in); type user"},
		{"a beginning of another name", sharingLines, "rename doc owner parents", "type doc; banned = this(user); editor = this(user) | parents; parent = this(doc); parents = this(user); viewer = (this(user,group#member) | editor | parent->viewer) - banned; type group; member = this(user,group#member); type user"},
		{"to the name of another type's relation", sharingLines, "rename group member viewer", "type doc; banned = this(user); editor = this(user) | owner; owner = this(user); parent = this(doc); viewer = (this(user,group#viewer) | editor | parent->viewer) - banned; type group; viewer = this(user,group#viewer); type user"},
		{"one that nobody names", sharingLines, "rename doc editor writer", "type doc; banned = this(user); owner = this(user); parent = this(doc); viewer = (this(user,group#member) | writer | parent->viewer) - banned; writer = this(user) | owner; type group; member = this(user,group#member); type user"},
		{"the order of Allow and of kids stays", "type doc; a = c | this(doc#c,user,doc#b) | b; b = this(user); c = this(user); type user", "rename doc b d", "type doc; a = c | this(doc#c,user,doc#d) | d; c = this(user); d = this(user); type user"},
		{"below every node", "type doc; a = this(user); b = ((a & c) - (c | a)) | (c - a); c = this(user); type user", "rename doc a x", "type doc; b = ((x & c) - (c | x)) | (c - x); c = this(user); x = this(user); type user"},
	})
}

func TestRenamedToWordsAndNoNames(t *testing.T) {
	askMigrations(t, []migration{
		{"type", "type doc; a = this(user); b = a; type user", "rename doc a type", "type doc; b = type; type = this(user); type user"},
		{"a type's name", "type doc; a = this(user); b = a; type user", "rename doc a user", "type doc; b = user; user = this(user); type user"},
		{"its own type's name", "type doc; a = this(user); b = a; type user", "rename doc b doc", "type doc; a = this(user); doc = a; type user"},
		{"tuples", "type doc; a = this(doc#a,user); type user", "rename doc a tuples", "type doc; tuples = this(doc#tuples,user); type user"},
		{"nearly this", "type doc; a = this(user); type user", "rename doc a thi", "type doc; thi = this(user); type user"},
		{"twelve letters", "type doc; a = this(user); type user", "rename doc a abcdefghijkl", "type doc; abcdefghijkl = this(user); type user"},
	})
	const s = "type doc; a = this(user); b = a; type user"
	refuseAll(t, s, "rename doc a this", "rename doc a abcdefghijklm", "rename doc a A", "rename doc a b1", "rename doc a b_", "rename doc a b#c", "rename doc a doc:c", "rename doc a .", "rename doc a é", "rename doc a \x00", "rename doc a b->c")
	refuseAll(t, s, "rename doc a a", "rename doc b b", "rename doc a b", "rename doc b a")
	refuseAll(t, s, "rename doc c d", "rename user a c", "rename user b c", "rename team a c", "rename doc this c", "rename doc . c", "rename . a c", "rename . . .", "rename doc user c", "rename a doc c", "rename DOC a c", "rename doc A c")
}

func TestRenamedOfRelationsThatNameThemselves(t *testing.T) {
	askMigrations(t, []migration{
		{"by a name", "type doc; a = this(user) | a; type user", "rename doc a b", "type doc; b = this(user) | b; type user"},
		{"by a name alone", "type doc; a = a; type user", "rename doc a b", "type doc; b = b; type user"},
		{"by an Allow", "type doc; a = this(doc#a,user); type user", "rename doc a b", "type doc; b = this(doc#b,user); type user"},
		{"over another relation", "type doc; a = this(user) | in->a; in = this(doc); type user", "rename doc a z", "type doc; in = this(doc); z = this(user) | in->z; type user"},
		{"in all ways", "type doc; a = this(doc,doc#a,user) | a | in->a; in = this(doc); type user", "rename doc a z", "type doc; in = this(doc); z = this(doc,doc#z,user) | z | in->z; type user"},
		// The way has the same name on both sides of the arrow.
		{"a way over itself", "type doc; a = this(doc); b = a->a; type user", "rename doc a z", "type doc; b = z->z; z = this(doc); type user"},
		{"a way over itself, two types", "type doc; a = this(team); b = a->a; type team; a = this(user); type user", "rename doc a z", "type doc; b = z->a; z = this(team); type team; a = this(user); type user"},
		{"and the other one", "type doc; a = this(team); b = a->a; type team; a = this(user); type user", "rename team a z", "type doc; a = this(team); b = a->z; type team; z = this(user); type user"},
	})
}

func TestRenamedOverOtherTypes(t *testing.T) {
	askMigrations(t, []migration{
		{"the goal of another type", "type doc; a = this(user); type team; b = has->a; has = this(doc); type user", "rename doc a z", "type doc; z = this(user); type team; b = has->z; has = this(doc); type user"},
		{"the goal of two other types", "type app; has = this(doc,user); see = has->a; type doc; a = this(user); type team; b = has->a; has = this(doc); type user", "rename doc a z", "type app; has = this(doc,user); see = has->z; type doc; z = this(user); type team; b = has->z; has = this(doc); type user"},
		{"a relation of that name is no goal", "type doc; a = this(user); b = this(doc); type team; a = this(user); b = has->a; has = this(team); type user", "rename doc a z", "type doc; b = this(doc); z = this(user); type team; a = this(user); b = has->a; has = this(team); type user"},
		{"another type's way of the same name", "type doc; has = this(user); type team; a = this(user); b = has->a; has = this(team); type user", "rename doc has z", "type doc; z = this(user); type team; a = this(user); b = has->a; has = this(team); type user"},
		{"another type's relation of the same name", "type doc; a = this(user); b = a; type team; a = this(user); b = a; c = this(doc#a,team#a); type user", "rename doc a z", "type doc; b = z; z = this(user); type team; a = this(user); b = a; c = this(doc#z,team#a); type user"},
		{"the type itself is allowed", "type doc; a = this(doc,doc#a,team#a); type team; a = this(doc,user); type user", "rename doc a z", "type doc; z = this(doc,doc#z,team#a); type team; a = this(doc,user); type user"},
		{"a way of another type is renamed", "type doc; a = this(user); type team; b = has->a; has = this(doc); type user", "rename team has z", "type doc; a = this(user); type team; b = z->a; z = this(doc); type user"},
		{"one that goes over it is renamed", "type doc; a = this(user); type team; b = has->a; has = this(doc); type user", "rename team b a", "type doc; a = this(user); type team; a = has->a; has = this(doc); type user"},
		{"an allowed type that is no goal", "type doc; a = this(user); type kit; k = this(user); type team; b = has->a; has = this(doc,kit,user); type user", "rename doc a z", "type doc; z = this(user); type kit; k = this(user); type team; b = has->z; has = this(doc,kit,user); type user"},
		{"a set of it is none to go over", "type doc; a = this(user); b = this(user); type kit; a = this(user); b = this(kit,doc#a); c = this(kit); d = c->a; type user", "rename doc a d", "type doc; b = this(user); d = this(user); type kit; a = this(user); b = this(kit,doc#d); c = this(kit); d = c->a; type user"},
	})
}

// Two relations of two goals would have two names, or one more would be a goal.
func TestRenamedWouldMixGoals(t *testing.T) {
	// With the Name to: that it goes over typ is enough, wherever it stands.
	const one = "type doc; a = this(user); type kit; z = this(user); type team; b = has->z; has = this(doc,kit); type user"
	refuseAll(t, one, "rename doc a z")
	askMigrations(t, []migration{
		{"another name", one, "rename doc a y", "type doc; y = this(user); type kit; z = this(user); type team; b = has->z; has = this(doc,kit); type user"},
		{"over a type that is not allowed", "type doc; a = this(user); type kit; z = this(user); type team; b = has->z; has = this(kit); type user", "rename doc a z", "type doc; z = this(user); type kit; z = this(user); type team; b = has->z; has = this(kit); type user"},
		{"over another way", "type doc; a = this(user); type kit; z = this(user); type team; b = has->z; bag = this(doc); has = this(kit); type user", "rename doc a z", "type doc; z = this(user); type kit; z = this(user); type team; b = has->z; bag = this(doc); has = this(kit); type user"},
	})
	refuseAll(t, "type doc; a = this(user); b = has->z; has = this(doc,kit); type kit; z = this(user); type user", "rename doc a z")
	refuseAll(t, "type doc; a = this(user) | has->z; has = this(kit,doc); type kit; z = this(user); type user", "rename doc a z")
	refuseAll(t, "type doc; a = this(user); type kit; has = this(doc,kit); z = has->z; type user", "rename doc a z")
	refuseAll(t, "type doc; a = this(user); type kit; has = this(doc,kit); y = this(user) - (has->z & z); z = this(user); type user", "rename doc a z")
	// With the Name from: another one that is allowed has from, or to.
	const two = "type doc; a = this(user); type kit; a = this(user); type team; b = has->a; has = this(doc,kit); type user"
	refuseAll(t, two, "rename doc a z", "rename kit a z", "rename doc a y")
	const three = "type doc; a = this(user); type kit; z = this(user); type team; b = has->a; has = this(doc,kit); type user"
	refuseAll(t, three, "rename doc a z")
	askMigrations(t, []migration{
		{"to another name than the other one has", three, "rename doc a y", "type doc; y = this(user); type kit; z = this(user); type team; b = has->y; has = this(doc,kit); type user"},
		{"one that is no goal, away from it", three, "rename kit z y", "type doc; a = this(user); type kit; y = this(user); type team; b = has->a; has = this(doc,kit); type user"},
	})
	refuseAll(t, three, "rename kit z a")
	refuseAll(t, "type doc; a = this(user); b = has->a; has = this(doc,kit); type kit; a = this(user); type user", "rename doc a z", "rename kit a z")
	refuseAll(t, "type doc; a = this(user) | has->a; has = this(user,doc); type user; z = this(user)", "rename doc a z")
	refuseAll(t, "type doc; a = this(user) | has->a; has = this(user,doc); type user; a = this(user)", "rename doc a z", "rename user a z")
	// The relation that goes over both is the second of that name.
	refuseAll(t, "type app; has = this(doc); see = has->a; type doc; a = this(user); type kit; a = this(user); type team; b = has->a; has = this(kit,doc); type user", "rename doc a z")
	// The way itself is one of those that are renamed.
	refuseAll(t, "type doc; a = this(doc,kit); b = a->a; type kit; a = this(user); type user", "rename doc a z", "rename kit a z")
}

func TestRenamedTuples(t *testing.T) {
	for _, c := range []struct{ what, tuples, typ, from, to, want string }{
		{"none", "", "doc", "a", "b", ""},
		{"as Rel", "doc:x#a@user:p", "doc", "a", "b", "doc:x#b@user:p"},
		{"as Rel of another type", "doc:x#a@user:p team:x#a@user:p", "doc", "a", "b", "doc:x#b@user:p team:x#a@user:p"},
		{"as Set", "doc:x#c@team:x#a", "team", "a", "b", "doc:x#c@team:x#b"},
		{"as Set of another type", "doc:x#a@team:x#a", "doc", "a", "b", "doc:x#b@team:x#a"},
		{"as Rel of the other type", "doc:x#a@team:x#a", "team", "a", "b", "doc:x#a@team:x#b"},
		{"as both", "doc:x#a@doc:y#a", "doc", "a", "b", "doc:x#b@doc:y#b"},
		{"an empty Set stays", "doc:x#a@doc:y", "doc", "a", "b", "doc:x#b@doc:y"},
		{"an empty Set stays, from the empty name", "doc:x#a@doc:y doc:x#a@doc:y#a", "doc", "", "b", "doc:x#a@doc:y doc:x#a@doc:y#a"},
		{"another relation", "doc:x#c@user:p doc:x#ca@user:p", "doc", "a", "b", "doc:x#c@user:p doc:x#ca@user:p"},
		{"ids are no names", "doc:a#c@user:a", "doc", "a", "b", "doc:a#c@user:a"},
		{"types are none", "a:x#c@a:x", "a", "a", "b", "a:x#c@a:x"},
		{"out of order behind it", "doc:x#a@user:p doc:x#b@user:p doc:y#a@user:p", "doc", "a", "c", "doc:x#b@user:p doc:x#c@user:p doc:y#c@user:p"},
		{"in order again", "doc:x#a@user:p doc:x#b@user:p doc:x#b@user:q", "doc", "b", "aa", "doc:x#a@user:p doc:x#aa@user:p doc:x#aa@user:q"},
		{"out of order by a Set", "doc:x#c@doc:x#a doc:x#c@doc:x#b", "doc", "a", "z", "doc:x#c@doc:x#b doc:x#c@doc:x#z"},
		{"two become one", "doc:x#a@user:p doc:x#b@user:p", "doc", "b", "a", "doc:x#a@user:p"},
		{"alike, by Rel", "doc:x#a@user:p doc:x#a@user:q doc:x#b@user:p doc:x#b@user:r", "doc", "a", "b", "doc:x#b@user:p doc:x#b@user:q doc:x#b@user:r"},
		{"alike, by Set", "team:x#m@doc:x#a team:x#m@doc:x#b", "doc", "a", "b", "team:x#m@doc:x#b"},
		{"alike, by both", "doc:x#a@doc:x#a doc:x#a@doc:x#b doc:x#b@doc:x#a doc:x#b@doc:x#b", "doc", "b", "a", "doc:x#a@doc:x#a"},
		{"to from", "doc:x#a@user:p doc:x#b@user:p", "doc", "a", "a", "doc:x#a@user:p doc:x#b@user:p"},
		{"from no name", "doc:x#a@user:p", "doc", "A", "b", "doc:x#a@user:p"},
		{"of no type", "doc:x#a@user:p", "", "a", "b", "doc:x#a@user:p"},
		{"to no name", "doc:x#a@user:p doc:x#c@user:p", "doc", "a", "this", ""},
		{"to no name, of none that is there", "doc:x#c@user:p", "doc", "a", "this", ""},
		{"to the empty name", "doc:x#a@user:p", "doc", "a", "", ""},
		{"to from, no name", "doc:x#a@user:p", "doc", "this", "this", ""},
		{"to a name of 12", "doc:x#a@user:p", "doc", "a", "abcdefghijkl", "doc:x#abcdefghijkl@user:p"},
		{"to a name of 13", "doc:x#a@user:p", "doc", "a", "abcdefghijklm", ""},
	} {
		if got := impl.RenamedTuples(sortedTuples(t, c.tuples), c.typ, c.from, c.to); tuplesText(got) != c.want {
			t.Errorf("%s: %s, not %s", c.what, tuplesText(got), c.want)
		}
	}
}

func TestRenamedTuplesOfWrongLists(t *testing.T) {
	right := tuplesOf(t, "doc:x#a@user:p", "doc:x#a@user:q", "doc:x#b@group:g#member")
	for _, places := range [][]int{{1, 0}, {0, 0}, {0, 2, 1}, {0, 1, 1}, {2, 1, 0}} {
		var l []impl.Tuple
		for _, i := range places {
			l = append(l, right[i])
		}
		// Behind the renaming they would be in order, or alike: they must be right ahead of it.
		for _, to := range []string{"a", "b", "c", "z"} {
			if got := impl.RenamedTuples(l, "doc", "a", to); len(got) > 0 {
				t.Errorf("%v to %s: %s", places, to, tuplesText(got))
			}
			if got := impl.Unfit(schemaOf(t, sharing), l); len(got) > 0 {
				t.Errorf("%v: %s do not fit", places, tuplesText(got))
			}
		}
	}
	for _, wrong := range wrongTuples(right[2]) {
		for _, l := range [][]impl.Tuple{{wrong}, {right[0], wrong}} {
			if got := impl.RenamedTuples(l, "doc", "b", "c"); len(got) > 0 {
				t.Errorf("%v: %v", l, got)
			}
			if got := impl.Unfit(schemaOf(t, sharing), l); len(got) > 0 {
				t.Errorf("%v: %v do not fit", l, got)
			}
		}
	}
	most := numbered(impl.MaxTuples + 1)
	if got := impl.RenamedTuples(most[:impl.MaxTuples], "doc", "viewer", "see"); len(got) != impl.MaxTuples || got[39].Rel != "see" {
		t.Error("as many as there may be", len(got))
	}
	if got := impl.RenamedTuples(most, "doc", "viewer", "see"); len(got) > 0 {
		t.Error("one too many", len(got))
	}
}

func TestInlinedOfOrdinarySchemas(t *testing.T) {
	askMigrations(t, []migration{
		{"the whole", "type doc; a = this(user); b = c; c = a; type user", "inline doc c", "type doc; a = this(user); b = a; c = a; type user"},
		{"the whole, of sides", "type doc; a = this(user); b = c; c = a | d; d = this(user); type user", "inline doc c", "type doc; a = this(user); b = a | d; c = a | d; d = this(user); type user"},
		{"below a node, first", "type doc; a = this(user); b = c - a; c = a | d; d = this(user); type user", "inline doc c", "type doc; a = this(user); b = (a | d) - a; c = a | d; d = this(user); type user"},
		{"below a node, last", "type doc; a = this(user); b = a - c; c = a | d; d = this(user); type user", "inline doc c", "type doc; a = this(user); b = a - (a | d); c = a | d; d = this(user); type user"},
		{"below the same node", "type doc; a = this(user); b = a | c; c = a | d; d = this(user); type user", "inline doc c", "type doc; a = this(user); b = a | (a | d); c = a | d; d = this(user); type user"},
		{"at several places", "type doc; a = this(user); b = (c & a) | (c - (a & c)); c = a - d; d = this(user); type user", "inline doc c", "type doc; a = this(user); b = ((a - d) & a) | ((a - d) - (a & (a - d))); c = a - d; d = this(user); type user"},
		{"in several relations", "type doc; a = this(user); b = c | d; c = a & e; d = this(user) | c; e = c; type user", "inline doc c", "type doc; a = this(user); b = (a & e) | d; c = a & e; d = this(user) | (a & e); e = a & e; type user"},
		{"beside a this", "type doc; a = this(user); b = this(doc#b,user) | c; c = a; type user", "inline doc c", "type doc; a = this(user); b = this(doc#b,user) | a; c = a; type user"},
		{"with a way", "type doc; a = this(user); b = c | a; c = in->a; in = this(doc); type user", "inline doc c", "type doc; a = this(user); b = in->a | a; c = in->a; in = this(doc); type user"},
		{"over itself is no own name", "type doc; b = c; c = in->c | d; d = this(user); in = this(doc); type user", "inline doc c", "type doc; b = in->c | d; c = in->c | d; d = this(user); in = this(doc); type user"},
		{"none that names it", "type doc; a = this(user); b = a; type user", "inline doc b", "type doc; a = this(user); b = a; type user"},
		{"as the Name over another is left", "type doc; b = in->c | c; c = d; d = this(user); in = this(doc); type user", "inline doc c", "type doc; b = in->c | d; c = d; d = this(user); in = this(doc); type user"},
		{"as a Set is left", "type doc; b = this(doc#c) | c; c = d; d = this(user); type user", "inline doc c", "type doc; b = this(doc#c) | d; c = d; d = this(user); type user"},
		{"another type's relation of that name", "type doc; a = this(user); b = c; c = a; type team; a = this(user); b = c; c = a; type user", "inline doc c", "type doc; a = this(user); b = a; c = a; type team; a = this(user); b = c; c = a; type user"},
		{"two that name one another", "type doc; a = b | d; b = a | d; d = this(user); type user", "inline doc b", "type doc; a = (a | d) | d; b = a | d; d = this(user); type user"},
		{"a ring of two", "type doc; a = b; b = a; type user", "inline doc b", "type doc; a = a; b = a; type user"},
		{"what takes away, taken away", "type doc; a = this(user); b = this(user); c = a - b; d = a - c; type user", "inline doc c", "type doc; a = this(user); b = this(user); c = a - b; d = a - (a - b); type user"},
	})
}

func TestInlinedOfOthersIsRefused(t *testing.T) {
	refuseAll(t, "type doc; a = this(user); b = a; type user", "inline doc a", "inline doc c", "inline doc .", "inline doc this", "inline user a", "inline user b", "inline team b", "inline . b", "inline . .", "inline DOC b")
	refuseAll(t, "type doc; a = this(user); b = a | this(user); c = b; type user", "inline doc b")
	refuseAll(t, "type doc; a = this(user); b = a - this(user); c = a; type user", "inline doc b")
	refuseAll(t, "type doc; a = a; b = a; type user", "inline doc a")
	refuseAll(t, "type doc; a = b | a; b = this(user); c = a; type user", "inline doc a")
	refuseAll(t, "type doc; a = (b & c) - (b - c); b = this(user) | c; c = (b - d) & (d | c); d = this(user); type user", "inline doc c")
}

// chainOf answers a union of n leaves with that name, which has 2 n - 1 nodes.
func chainOf(n int, name string) []impl.Expr {
	e := rel(name)
	for range n - 1 {
		e = union(e, rel(name))
	}
	return e
}

func TestInlinedUpToTheMostNodes(t *testing.T) {
	for at := 1; at <= 8; at++ {
		for size := 1; size <= 8; size++ {
			s := onDocs(relation("a", this(user())), relation("b", chainOf(at, "c")), relation("c", chainOf(size, "a")))
			got, ok := impl.Inlined(s, "doc", "c")
			want := at*size <= 8
			if ok != want || !ok && len(got) > 0 {
				t.Errorf("%d leaves of %d each: %v", at, size, ok)
			}
			if ok && len(got[0].Rels[1].Expr) != 2*at*size-1 {
				t.Errorf("%d leaves of %d each: %d nodes", at, size, len(got[0].Rels[1].Expr))
			}
		}
	}
	// 13 + 2 nodes, and 15 + 2; each grows at one place.
	three := both(rel("a"), rel("a"), rel("a"))
	for size, want := range map[int]bool{6: true, 7: true, 8: false} {
		s := onDocs(relation("a", this(user())), relation("b", union(chainOf(size-1, "a"), rel("c"))), relation("c", but(rel("a"), rel("a"))))
		if _, ok := impl.Inlined(s, "doc", "c"); ok != want {
			t.Errorf("%d leaves with one of three nodes: %v", size, ok)
		}
	}
	// The first relation would do, the second would not: neither is told.
	s := onDocs(relation("a", this(user())), relation("b", rel("d")), relation("c", chainOf(8, "d")), relation("d", three))
	if got, ok := impl.Inlined(s, "doc", "d"); ok || len(got) > 0 {
		t.Error("a relation of too many nodes")
	}
}

func TestPruned(t *testing.T) {
	askMigrations(t, []migration{
		{"one that nobody names", "type doc; a = this(user); b = this(user); type user", "prune doc a", "type doc; b = this(user); type user"},
		{"the last one", "type doc; a = this(user); b = a; type user", "prune doc b", "type doc; a = this(user); type user"},
		{"the only one", "type doc; a = this(user); type user", "prune doc a", "type doc; type user"},
		{"one of the last type", "type doc; type user; a = this(user)", "prune user a", "type doc; type user"},
		{"named by itself", "type doc; a = this(user) | a; b = this(user); type user", "prune doc a", "type doc; b = this(user); type user"},
		{"named by itself alone", "type doc; a = a; type user", "prune doc a", "type doc; type user"},
		{"named by its own Allow", "type doc; b = this(user); c = this(doc#c,user); type user", "prune doc c", "type doc; b = this(user); type user"},
		{"named by itself over another", "type doc; b = this(doc); c = this(user) | b->c; type user", "prune doc c", "type doc; b = this(doc); type user"},
		{"named by itself in all ways", "type doc; b = this(doc); c = this(doc#c,user) | b->c | c; type user", "prune doc c", "type doc; b = this(doc); type user"},
		{"another type's one is named", "type doc; a = this(user); type team; a = this(user); b = a; c = this(team#a); type user", "prune doc a", "type doc; type team; a = this(user); b = a; c = this(team#a); type user"},
		{"another type's one is a goal", "type doc; a = this(user); type team; a = this(user); b = this(team); c = b->a; type user", "prune doc a", "type doc; type team; a = this(user); b = this(team); c = b->a; type user"},
		{"its type is allowed", "type doc; a = this(user); b = this(doc); type team; b = this(doc); type user", "prune doc a", "type doc; b = this(doc); type team; b = this(doc); type user"},
		{"a way that nobody goes", "type doc; a = this(user); b = this(doc); type user", "prune doc b", "type doc; a = this(user); type user"},
		{"one that goes a way", "type doc; a = this(user); b = this(doc); c = b->a; type user", "prune doc c", "type doc; a = this(user); b = this(doc); type user"},
		{"one that takes away", "type doc; a = this(user); b = this(user); c = a - b; type user", "prune doc c", "type doc; a = this(user); b = this(user); type user"},
		{"another type's way of the same name", "type doc; has = this(user); type team; a = this(user); b = has->a; has = this(team); type user", "prune doc has", "type doc; type team; a = this(user); b = has->a; has = this(team); type user"},
	})
	refuseAll(t, "type doc; a = this(user); b = a; type user", "prune doc a", "prune doc c", "prune doc .", "prune doc this", "prune user a", "prune team a", "prune . a", "prune . .", "prune DOC b", "prune doc doc")
	refuseAll(t, "type doc; a = this(user); b = (this(user) | b) - (a & a); type user", "prune doc a")
	refuseAll(t, "type doc; a = this(user); b = this(doc#a); type user", "prune doc a")
	refuseAll(t, "type doc; a = this(user); type team; b = this(team,user,doc#a); type user", "prune doc a")
	refuseAll(t, "type doc; a = this(user); b = this(doc); c = b->a; type user", "prune doc a", "prune doc b")
	refuseAll(t, "type doc; a = this(user); b = this(doc); type team; b = this(doc); c = b->a; type user", "prune doc a", "prune team b")
	// Another goal is left, but the answers would be others.
	refuseAll(t, "type doc; a = this(user); type kit; a = this(user); type team; b = this(doc,kit); c = b->a; type user", "prune doc a", "prune kit a")
	refuseAll(t, "type doc; a = this(user) | b->a; b = this(doc,kit); type kit; a = this(user) | b->a; b = this(doc,kit); type user", "prune doc a", "prune kit a")
	// Of two that name one another neither can go alone.
	refuseAll(t, "type doc; a = b; b = a; type user", "prune doc a", "prune doc b")
	refuseAll(t, "type doc; a = this(doc#b,user); b = this(doc#a,user); type user", "prune doc a", "prune doc b")
}

func TestUnfit(t *testing.T) {
	s := schemaOf(t, sharing)
	for tuples, want := range map[string]string{
		"":                         "",
		"doc:a#owner@user:x":       "",
		"doc:a#owner@group:x":      "doc:a#owner@group:x",
		"doc:a#viewer@group:x":     "doc:a#viewer@group:x",
		"doc:a#viewer@user:x#a":    "doc:a#viewer@user:x#a",
		"doc:a#none@user:x":        "doc:a#none@user:x",
		"team:a#owner@user:x":      "team:a#owner@user:x",
		"doc:a#viewer@group:x#own": "doc:a#viewer@group:x#own",
		"doc:a#owner@doc:a doc:a#owner@user:x doc:b#none@user:x doc:b#viewer@group:g#member group:g#member@user:x user:x#a@user:x": "doc:a#owner@doc:a doc:b#none@user:x user:x#a@user:x",
		"a:a#a@a:a doc:a#parent@doc:a doc:a#parent@doc:a#parent z:z#z@z:z":                                                         "a:a#a@a:a doc:a#parent@doc:a#parent z:z#z@z:z",
	} {
		if got := impl.Unfit(s, tuplesOf(t, strings.Fields(tuples)...)); tuplesText(got) != want {
			t.Errorf("of %s do not fit\n%s, not\n%s", tuples, tuplesText(got), want)
		}
	}
	other := tuplesOf(t, "team:a#owner@user:x")
	if got := impl.Unfit(nil, other); !slices.Equal(got, other) {
		t.Error("into a schema of no types nothing fits", got)
	}
	most := numbered(impl.MaxTuples + 1)
	for i := range most {
		most[i].Rel = "none"
	}
	if got := impl.Unfit(s, most[:impl.MaxTuples]); !slices.Equal(got, most[:impl.MaxTuples]) {
		t.Error("as many as there may be", len(got))
	}
	if got := impl.Unfit(s, most); len(got) > 0 {
		t.Error("one too many", len(got))
	}
}

func TestMigrationsOfWrongSchemas(t *testing.T) {
	l := tuplesOf(t, "aa:x#a@user:p", "doc:x#a@user:p", "team:x#b@user:p")
	for what, s := range wrongSchemas() {
		for _, key := range [][2]string{{"doc", "a"}, {"doc", "b"}, {"doc", "c"}, {"Doc", "a"}, {"user", "a"}, {"doc", "this"}, {"", ""}} {
			for _, to := range []string{"z", "b", "a", "this", ""} {
				if got, ok := impl.Renamed(s, key[0], key[1], to); ok || len(got) > 0 {
					t.Errorf("%s: %v is renamed to %s: %v", what, key, to, got)
				}
			}
			if got, ok := impl.Inlined(s, key[0], key[1]); ok || len(got) > 0 {
				t.Errorf("%s: %v is put in full: %v", what, key, got)
			}
			if got, ok := impl.Pruned(s, key[0], key[1]); ok || len(got) > 0 {
				t.Errorf("%s: %v is pruned: %v", what, key, got)
			}
		}
		if got := impl.Unfit(s, l); len(got) > 0 {
			t.Errorf("%s: %s do not fit", what, tuplesText(got))
		}
	}
	for _, key := range [][2]string{{"doc", "a"}, {"", ""}} {
		_, renamed := impl.Renamed(nil, key[0], key[1], "z")
		_, inlined := impl.Inlined(nil, key[0], key[1])
		_, pruned := impl.Pruned(nil, key[0], key[1])
		if renamed || inlined || pruned {
			t.Error("a schema of no types", key, renamed, inlined, pruned)
		}
	}
}

// A schema with every list as long as it may be.
func TestMigrationsOfTheGreatestSchema(t *testing.T) {
	s := greatSchema()
	for _, ty := range s {
		for _, re := range ty.Rels {
			for _, to := range []string{"a", "zz", "q", re.Name} {
				got, ok := impl.Renamed(s, ty.Name, re.Name, to)
				want, fine := renamedByWords(s, ty.Name, re.Name, to)
				if ok != fine || schemaTextOf(got) != schemaTextOf(want) {
					t.Fatalf("%s of %s to %s: %v, not %v", re.Name, ty.Name, to, ok, fine)
				}
				wantApart(t, fmt.Sprint(ty.Name, re.Name), s, got)
			}
		}
	}
}
