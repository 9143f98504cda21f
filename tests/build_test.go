package tests

import (
	"fmt"
	"math/rand"
	"reflect"
	"slices"
	"strings"
	"testing"

	"loop.example/g00297/impl"
)

// What the tests build their inputs with. None of it asks the program but tupleOf.

func tupleOf(t *testing.T, text string) impl.Tuple {
	t.Helper()
	u, ok := impl.ReadTuple(text)
	if !ok {
		t.Fatalf("not a tuple: %q", text)
	}
	return u
}

func tuplesOf(t *testing.T, texts ...string) []impl.Tuple {
	t.Helper()
	var l []impl.Tuple
	for _, s := range texts {
		l = append(l, tupleOf(t, s))
	}
	return l
}

func tuplesText(l []impl.Tuple) string {
	var texts []string
	for _, u := range l {
		texts = append(texts, impl.TupleText(u))
	}
	return strings.Join(texts, " ")
}

// numbered answers n right tuples in order.
func numbered(n int) []impl.Tuple {
	var l []impl.Tuple
	for i := range n {
		l = append(l, impl.Tuple{
			Object:  impl.Object{Type: "doc", Id: fmt.Sprintf("%03d", i)},
			Rel:     "viewer",
			Subject: impl.Object{Type: "user", Id: "ann"},
		})
	}
	return l
}

func user() impl.Allowed { return impl.Allowed{Type: "user"} }

func this(list ...impl.Allowed) []impl.Expr {
	return []impl.Expr{{Kind: impl.RwThis, Allow: list}}
}

func rel(name string) []impl.Expr { return []impl.Expr{{Kind: impl.RwRel, Name: name}} }

func over(by string, name string) []impl.Expr {
	return []impl.Expr{{Kind: impl.RwOver, Over: by, Name: name}}
}

func union(kids ...[]impl.Expr) []impl.Expr { return node(impl.RwUnion, kids) }
func both(kids ...[]impl.Expr) []impl.Expr  { return node(impl.RwBoth, kids) }

func but(first []impl.Expr, second []impl.Expr) []impl.Expr {
	return node(impl.RwBut, [][]impl.Expr{first, second})
}

// node lays the kids one behind the other and the node behind them.
func node(kind int64, kids [][]impl.Expr) []impl.Expr {
	var out []impl.Expr
	var places []int64
	for _, kid := range kids {
		shift := int64(len(out))
		for _, n := range kid {
			n.Kids = slices.Clone(n.Kids)
			for i := range n.Kids {
				n.Kids[i] += shift
			}
			out = append(out, n)
		}
		places = append(places, int64(len(out))-1)
	}
	return append(out, impl.Expr{Kind: kind, Kids: places})
}

// names answers n rising names.
func names(n int) []string {
	var l []string
	for i := range n {
		l = append(l, "n"+string(rune('a'+i)))
	}
	return l
}

func relation(name string, e []impl.Expr) impl.Relation {
	return impl.Relation{Name: name, Expr: e}
}

func typ(name string, rels ...impl.Relation) impl.Type {
	return impl.Type{Name: name, Rels: rels}
}

// onDocs is a schema with the type doc of these relations and the bare type user.
func onDocs(rels ...impl.Relation) []impl.Type {
	return []impl.Type{typ("doc", rels...), typ("user")}
}

func copyExpr(e []impl.Expr) []impl.Expr {
	out := slices.Clone(e)
	for i := range out {
		out[i].Allow = slices.Clone(out[i].Allow)
		out[i].Kids = slices.Clone(out[i].Kids)
	}
	return out
}

func copySchema(s []impl.Type) []impl.Type {
	out := slices.Clone(s)
	for i := range out {
		out[i].Rels = slices.Clone(out[i].Rels)
		for j := range out[i].Rels {
			out[i].Rels[j].Expr = copyExpr(out[i].Rels[j].Expr)
		}
	}
	return out
}

func same(a any, b any) bool { return reflect.DeepEqual(a, b) }

// wrongSchemas are not right, each for another cause; all but the first have a type doc with a relation a that allows user, or nearly so.
func wrongSchemas() map[string][]impl.Type {
	a := relation("a", union(this(user()), rel("a")))
	return map[string][]impl.Type{
		"a type that is no name": {typ("Doc", a), typ("user")}, "no such type": {typ("doc", a)}, "types fall": {typ("user"), typ("doc", a)}, "types alike": {typ("doc", a), typ("doc"), typ("user")},
		"relations alike": onDocs(a, a), "relations fall": onDocs(relation("b", this(user())), a), "a relation this": onDocs(a, relation("this", this(user()))),
		"no expression": onDocs(a, relation("b", nil)), "no such relation": onDocs(a, relation("b", rel("c"))), "no goal": onDocs(a, relation("b", over("a", "a"))),
		"a kid far out":          onDocs(a, relation("b", []impl.Expr{{Kind: impl.RwRel, Name: "a"}, {Kind: impl.RwRel, Name: "a"}, {Kind: impl.RwUnion, Kids: []int64{0, 1 << 40}}})),
		"a kid below":            onDocs(a, relation("b", []impl.Expr{{Kind: impl.RwRel, Name: "a"}, {Kind: impl.RwRel, Name: "a"}, {Kind: impl.RwUnion, Kids: []int64{-1, 1}}})),
		"it takes itself away":   onDocs(relation("a", but(this(user()), rel("a")))),
		"a ring that takes away": onDocs(a, relation("b", rel("c")), relation("c", but(rel("a"), rel("b")))),
	}
}

// wantApart asks that no two lists of these values, and of what stands in them, share memory, the room behind them counted.
func wantApart(t *testing.T, what string, values ...any) {
	t.Helper()
	var rooms [][2]uintptr
	var walk func(v reflect.Value)
	walk = func(v reflect.Value) {
		switch v.Kind() {
		case reflect.Slice:
			if v.Cap() > 0 {
				rooms = append(rooms, [2]uintptr{v.Pointer(), v.Pointer() + uintptr(v.Cap())*v.Type().Elem().Size()})
			}
			for i := range v.Len() {
				walk(v.Index(i))
			}
		case reflect.Struct:
			for i := range v.NumField() {
				walk(v.Field(i))
			}
		}
	}
	for _, value := range values {
		walk(reflect.ValueOf(value))
	}
	slices.SortFunc(rooms, func(a, b [2]uintptr) int { return slices.Compare(a[:], b[:]) })
	for i := 1; i < len(rooms); i++ {
		if rooms[i][0] < rooms[i-1][1] {
			t.Fatalf("%s: two lists share memory", what)
		}
	}
}

// roomy answers the list with something in the room behind it, and a question whether that is still there.
func roomy[E any](list []E, behind E) ([]E, func() bool) {
	all := append(slices.Clone(list), behind)
	return all[:len(list)], func() bool { return same(all[len(list)], behind) }
}

// randomTree is bounded by its leaves: eight of them stay within MaxExpr nodes.
func randomTree(r *rand.Rand, leaves int, leaf func() []impl.Expr) []impl.Expr {
	if leaves <= 1 {
		return leaf()
	}
	kids := 2 + r.Intn(min(leaves, impl.MaxKids)-1)
	kind := int64(impl.RwUnion + r.Intn(3))
	if kind == impl.RwBut {
		kids = 2
	}
	var list [][]impl.Expr
	for i := range kids {
		share := leaves - (kids - 1 - i)
		if i < kids-1 {
			share = 1 + r.Intn(share)
		}
		leaves -= share
		list = append(list, randomTree(r, share, leaf))
	}
	return node(kind, list)
}
