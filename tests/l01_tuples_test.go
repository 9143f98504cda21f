package tests

import (
	"slices"
	"strings"
	"testing"

	"loop.example/g00297/impl"
)

const letters = "abcdefghijklmnopqrstuvwxyz"
const idSigns = letters + "0123456789_"

func TestNamesAndIdsBySign(t *testing.T) {
	for b := range 256 {
		sign := string([]byte{byte(b)})
		for _, s := range []string{sign, "a" + sign, sign + "a", "a" + sign + "a"} {
			if want := strings.Contains(letters, sign); impl.NameOk(s) != want {
				t.Errorf("NameOk(%q) is not %v", s, want)
			}
			if want := strings.Contains(idSigns, sign); impl.IdOk(s) != want {
				t.Errorf("IdOk(%q) is not %v", s, want)
			}
		}
	}
}

func TestNamesAndIdsByLength(t *testing.T) {
	for n := range 30 {
		s := strings.Repeat("a", n)
		want := n >= 1 && n <= 12
		if impl.NameOk(s) != want || impl.IdOk(s) != want {
			t.Errorf("%d signs: name %v, id %v", n, impl.NameOk(s), impl.IdOk(s))
		}
	}
	if !impl.IdOk("0123456789_a") || impl.IdOk("0123456789_ab") {
		t.Error("ids of 12 and 13 signs")
	}
	// Two bytes a letter, six letters: the length is no excuse for the signs.
	if impl.NameOk("éééééé") || impl.IdOk("éééééé") {
		t.Error("letters beyond a .. z")
	}
}

func TestTheNameThis(t *testing.T) {
	if impl.NameOk("this") || !impl.IdOk("this") {
		t.Error("this is an id but no name")
	}
	for _, s := range []string{"thi", "thisa", "athis", "thist", "type", "tuples", "add", "drop"} {
		if !impl.NameOk(s) {
			t.Errorf("%q is a name", s)
		}
	}
	for _, s := range []string{"this:a#r@b:c", "a:b#this@b:c", "a:b#r@this:c", "a:b#r@b:c#this"} {
		if u, ok := impl.ReadTuple(s); ok || u != (impl.Tuple{}) {
			t.Errorf("%q was read as %v", s, u)
		}
	}
	if u := tupleOf(t, "a:this#r@b:this"); u.Object.Id != "this" || u.Subject.Id != "this" {
		t.Error(u)
	}
}

func TestObjectsComeBack(t *testing.T) {
	for _, s := range []string{"a:b", "doc:1", "doc:_", "doc:this", "abcdefghijkl:0123456789_a"} {
		o, ok := impl.ReadObject(s)
		if !ok || impl.ObjectText(o) != s || o.Type+":"+o.Id != s {
			t.Errorf("%q was read as %v, %v", s, o, ok)
		}
	}
	for _, s := range []string{"", ":", "a", "a:", ":a", "a:b:", "a:b:c", "a::b", " a:b", "a:b ", "a :b", "A:b", "a:B", "a1:b", "a:b#c", "this:a", "abcdefghijklm:a", "a:abcdefghijklm", "a:b\n", "a:\x00"} {
		if o, ok := impl.ReadObject(s); ok || o != (impl.Object{}) {
			t.Errorf("%q was read as %v, %v", s, o, ok)
		}
	}
	for _, o := range []impl.Object{{}, {Type: "doc"}, {Id: "a"}, {Type: "this", Id: "a"}, {Type: "Doc", Id: "a"}, {Type: "doc", Id: "a:b"}, {Type: "a:b", Id: "c"}, {Type: "abcdefghijklm", Id: "a"}} {
		if s := impl.ObjectText(o); s != "" {
			t.Errorf("%v has the text %q", o, s)
		}
	}
}

func TestTuplesComeBack(t *testing.T) {
	want := impl.Tuple{Object: impl.Object{Type: "doc", Id: "1"}, Rel: "viewer", Subject: impl.Object{Type: "group", Id: "g_0"}, Set: "member"}
	if u := tupleOf(t, "doc:1#viewer@group:g_0#member"); u != want {
		t.Error(u)
	}
	want.Set = ""
	if u := tupleOf(t, "doc:1#viewer@group:g_0"); u != want || impl.TupleText(want) != "doc:1#viewer@group:g_0" {
		t.Error(u)
	}
	long := "abcdefghijkl:0123456789_a#abcdefghijkl@abcdefghijkl:0123456789_a#abcdefghijkl"
	if s := impl.TupleText(tupleOf(t, long)); s != long {
		t.Error(s)
	}
	for _, s := range []string{"", "#@", ":#@:", "a:b", "a:b#c", "a:b#c@", "a:b@c:d", "a:b@c:d#e", "a:b#c@d", "a:b#c@d:", "a:b#@d:e", "#c@d:e", "a:b#c@d:e#", "a:b#c@d:e##f", "a:b#c@d:e#f#", "a:b#c@d:e#f#g", "a:b#c#d@e:f", "a:b#c@@d:e", "a:b##c@d:e", "a:b#c@d:e@f", "a:b#c@d:e#f@g:h", "a:b#c@d:e#1", "a:b#c1@d:e", " a:b#c@d:e", "a:b#c@d:e ", "a:b #c@d:e", "a:b#c@d:e\n", "a:b:c#d@e:f", "a:b#c@d:e:f", "a:b#abcdefghijklm@c:d", "a:b#c@d:e#abcdefghijklm"} {
		if u, ok := impl.ReadTuple(s); ok || u != (impl.Tuple{}) {
			t.Errorf("%q was read as %v, %v", s, u, ok)
		}
	}
}

func TestWrongTuplesHaveNoText(t *testing.T) {
	right := tupleOf(t, "doc:1#viewer@group:g#member")
	wrong := wrongTuples(right)
	for _, u := range wrong {
		if s := impl.TupleText(u); s != "" {
			t.Errorf("%v has the text %q", u, s)
		}
		if impl.Ahead(u, right) || impl.Ahead(right, u) || impl.Ahead(u, u) {
			t.Errorf("%v has a place in the order", u)
		}
		if impl.TuplesOk([]impl.Tuple{u}) {
			t.Errorf("%v is in a right list", u)
		}
		if l, ok := impl.Added(nil, u); ok || l != nil {
			t.Errorf("%v was added", u)
		}
		if l, ok := impl.Removed([]impl.Tuple{u}, u); ok || l != nil {
			t.Errorf("%v was removed", u)
		}
	}
}

// wrongTuples spoils each field of a right tuple in turn.
func wrongTuples(right impl.Tuple) []impl.Tuple {
	list := []impl.Tuple{{}}
	for _, bad := range []string{"", "this", "A", "a:b", "a#b", "a1", "abcdefghijklm"} {
		a, b, c, d := right, right, right, right
		a.Object.Type, b.Rel, c.Subject.Type, d.Set = bad, bad, bad, bad
		list = append(list, a, b, c)
		if bad != "" {
			list = append(list, d)
		}
	}
	for _, bad := range []string{"", "A", "a:b", "a-b", "abcdefghijklm"} {
		a, b := right, right
		a.Object.Id, b.Subject.Id = bad, bad
		list = append(list, a, b)
	}
	return list
}

func TestWhatIsReadHasThatText(t *testing.T) {
	for _, text := range []string{"doc:1#viewer@user:ann", "a:b#c@d:e#f"} {
		for i := range len(text) + 1 {
			for _, sign := range []string{"", "a", "1", "_", ":", "#", "@", "A", " ", "\n", "\x00", "\xff"} {
				for _, s := range []string{text[:i] + sign + text[i:], text[:i] + sign + text[min(i+1, len(text)):]} {
					if u, ok := impl.ReadTuple(s); ok && impl.TupleText(u) != s || !ok && u != (impl.Tuple{}) {
						t.Errorf("%q was read as %v, %v", s, u, ok)
					}
				}
			}
		}
	}
}

func TestOrderOfTuples(t *testing.T) {
	l := tuplesOf(t, "a:a#r@u:x", "a:a#r@u:x#a", "a:a#r@u:x#b", "a:a#r@u:x0", "a:a#r@u:xa", "a:a#r@ua:a", "a:a#ra@u:x", "a:a#s@u:x", "a:a0#r@u:x", "a:a_#r@u:x", "a:aa#r@u:x", "a:b#r@u:x", "aa:a#r@u:x", "b:a#r@u:x")
	for i, a := range l {
		for j, b := range l {
			if impl.Ahead(a, b) != (i < j) {
				t.Errorf("Ahead(%s, %s) is not %v", impl.TupleText(a), impl.TupleText(b), i < j)
			}
			if impl.TuplesOk([]impl.Tuple{a, b}) != (i < j) {
				t.Errorf("the list of %s and %s", impl.TupleText(a), impl.TupleText(b))
			}
		}
	}
	if !impl.TuplesOk(l) || !impl.TuplesOk(nil) || !impl.TuplesOk([]impl.Tuple{}) {
		t.Error("right lists")
	}
	for i := range len(l) - 1 {
		swapped, twice, spoiled := slices.Clone(l), slices.Clone(l), slices.Clone(l)
		swapped[i], swapped[i+1] = swapped[i+1], swapped[i]
		twice[i] = twice[i+1]
		spoiled[i].Rel = ""
		if impl.TuplesOk(swapped) || impl.TuplesOk(twice) || impl.TuplesOk(spoiled) {
			t.Error("a wrong list, spoiled at", i)
		}
	}
}

func TestHowManyTuples(t *testing.T) {
	if impl.MaxTuples != 40 {
		t.Fatal(impl.MaxTuples)
	}
	full, more := numbered(impl.MaxTuples), numbered(impl.MaxTuples+1)
	last := more[impl.MaxTuples]
	if !impl.TuplesOk(full) || impl.TuplesOk(more) {
		t.Error("MaxTuples tuples and one more")
	}
	if l, ok := impl.Added(full, last); ok || l != nil {
		t.Error("one more than MaxTuples was added")
	}
	if l, ok := impl.Added(full[:impl.MaxTuples-1], full[impl.MaxTuples-1]); !ok || !same(l, full) {
		t.Error("the last of MaxTuples was not added")
	}
	if l, ok := impl.Removed(full, full[0]); !ok || !same(l, full[1:]) {
		t.Error("the first of MaxTuples was not removed")
	}
	if l, ok := impl.Removed(more, last); ok || l != nil {
		t.Error("removed from a list that is too long")
	}
}

func TestAddedAndRemovedAgain(t *testing.T) {
	all := numbered(12)
	for i, u := range all {
		without := slices.Delete(slices.Clone(all), i, i+1)
		with, ok := impl.Added(without, u)
		if !ok || !same(with, all) {
			t.Errorf("%v was not added in order", u)
		}
		again, ok := impl.Removed(with, u)
		if !ok || !same(again, without) {
			t.Errorf("without %v again it is not as it was", u)
		}
		if l, ok := impl.Added(all, u); ok || l != nil {
			t.Errorf("%v was added twice", u)
		}
		if l, ok := impl.Removed(without, u); ok || l != nil {
			t.Errorf("%v was removed though it is not there", u)
		}
	}
	one, ok := impl.Added(nil, all[0])
	if !ok || !same(one, all[:1]) {
		t.Error(one)
	}
	if none, ok := impl.Removed(one, all[0]); !ok || len(none) != 0 {
		t.Error(none)
	}
	// The set is part of the tuple: with another one it is another tuple.
	u := tupleOf(t, "doc:1#viewer@group:g#member")
	v := tupleOf(t, "doc:1#viewer@group:g")
	if l, ok := impl.Removed([]impl.Tuple{u}, v); ok || l != nil {
		t.Error("another set")
	}
	if l, ok := impl.Added([]impl.Tuple{u}, v); !ok || !same(l, []impl.Tuple{v, u}) {
		t.Error(l)
	}
}

func TestWrongListsAreRefused(t *testing.T) {
	l := numbered(3)
	u := tupleOf(t, "zoo:a#keeper@user:ann")
	for _, wrong := range [][]impl.Tuple{{l[1], l[0]}, {l[0], l[0]}, {l[0], {}}, {{}, l[0]}, {l[0], l[2], l[1]}} {
		if out, ok := impl.Added(wrong, u); ok || out != nil {
			t.Error("added to", wrong)
		}
		if out, ok := impl.Removed(wrong, l[0]); ok || out != nil {
			t.Error("removed from", wrong)
		}
	}
}

func TestListsOfTuplesAreLeftAlone(t *testing.T) {
	all := numbered(9)
	room := slices.Clone(all)
	l := room[:6]
	added, _ := impl.Added(l, all[8])
	removed, _ := impl.Removed(l, all[2])
	impl.Added(l, all[0])
	impl.Removed(l, all[8])
	impl.TuplesOk(l)
	if !same(room, all) {
		t.Fatal("an argument or the room behind it was written into")
	}
	again, _ := impl.Added(l, all[8])
	if !same(again, added) {
		t.Error("another answer to the same arguments")
	}
	for i := range added {
		added[i] = impl.Tuple{}
	}
	for i := range removed {
		removed[i] = impl.Tuple{}
	}
	if !same(room, all) {
		t.Error("an answer shares memory with an argument")
	}
}
