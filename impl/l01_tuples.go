package impl

import (
	"maps"
	"slices"
	"strings"
)

const MaxTuples = 40

// maxSigns is the greatest length of a name or an id.
const maxSigns = 12

// thisWord stands for a relation's own tuples in the text of an expression, so no name may be it.
const thisWord = "this"

type Object struct {
	Type string
	Id   string
}

type Tuple struct {
	Object  Object
	Rel     string
	Subject Object
	Set     string
}

// tupleSet holds right tuples without an order; inOrder tells them.
type tupleSet map[Tuple]struct{}

func NameOk(s string) bool { return s != thisWord && signsOk(s, isLetter) }

func IdOk(s string) bool { return signsOk(s, isIdSign) }

func signsOk(s string, allowed func(sign byte) bool) bool {
	if len(s) < 1 || len(s) > maxSigns {
		return false
	}
	for i := range len(s) {
		if !allowed(s[i]) {
			return false
		}
	}
	return true
}

func isLetter(sign byte) bool { return sign >= 'a' && sign <= 'z' }

func isIdSign(sign byte) bool {
	return isLetter(sign) || sign >= '0' && sign <= '9' || sign == '_'
}

func objectOk(o Object) bool { return NameOk(o.Type) && IdOk(o.Id) }

func ObjectText(o Object) string {
	if !objectOk(o) {
		return ""
	}
	return o.Type + ":" + o.Id
}

func ReadObject(s string) (Object, bool) {
	typ, id, _ := strings.Cut(s, ":")
	o := Object{Type: typ, Id: id}
	if !objectOk(o) {
		return Object{}, false
	}
	return o, true
}

func tupleOk(t Tuple) bool {
	return objectOk(t.Object) && NameOk(t.Rel) && objectOk(t.Subject) && setOk(t.Set)
}

func setOk(set string) bool { return set == "" || NameOk(set) }

func TupleText(t Tuple) string {
	if !tupleOk(t) {
		return ""
	}
	text := ObjectText(t.Object) + "#" + t.Rel + "@" + ObjectText(t.Subject)
	if t.Set != "" {
		text += "#" + t.Set
	}
	return text
}

func ReadTuple(s string) (Tuple, bool) {
	left, rest, _ := strings.Cut(s, "#")
	rel, rest, _ := strings.Cut(rest, "@")
	right, set, _ := strings.Cut(rest, "#")
	object, _ := ReadObject(left)
	subject, _ := ReadObject(right)
	t := Tuple{Object: object, Rel: rel, Subject: subject, Set: set}
	// The text is asked back, as a last # with nothing behind it leaves no mark in t.
	if !tupleOk(t) || TupleText(t) != s {
		return Tuple{}, false
	}
	return t, true
}

func Ahead(a Tuple, b Tuple) bool {
	return tupleOk(a) && tupleOk(b) && compareTuples(a, b) < 0
}

func compareTuples(a Tuple, b Tuple) int {
	return strings.Compare(TupleText(a), TupleText(b))
}

func TuplesOk(l []Tuple) bool {
	if len(l) > MaxTuples {
		return false
	}
	for i, t := range l {
		if !tupleOk(t) || i > 0 && !Ahead(l[i-1], t) {
			return false
		}
	}
	return true
}

func Added(l []Tuple, t Tuple) ([]Tuple, bool) {
	if !TuplesOk(l) || !tupleOk(t) || len(l) >= MaxTuples {
		return nil, false
	}
	set := setOf(l)
	if _, there := set[t]; there {
		return nil, false
	}
	set[t] = struct{}{}
	return inOrder(set), true
}

func Removed(l []Tuple, t Tuple) ([]Tuple, bool) {
	if !TuplesOk(l) {
		return nil, false
	}
	set := setOf(l)
	if _, there := set[t]; !there {
		return nil, false
	}
	delete(set, t)
	return inOrder(set), true
}

func setOf(l []Tuple) tupleSet {
	set := tupleSet{}
	for _, t := range l {
		set[t] = struct{}{}
	}
	return set
}

// inOrder sorts, as a map is gone through in any order.
func inOrder(set tupleSet) []Tuple {
	return slices.SortedFunc(maps.Keys(set), compareTuples)
}
