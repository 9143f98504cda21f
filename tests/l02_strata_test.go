package tests

import (
	"math/rand"
	"testing"

	"loop.example/g00297/impl"
)

// The strata of many schemas, held against what the document says of them, worked out another way.

type bond struct {
	from, on [2]string
	away     bool
}

// bondsOf goes down from the whole of each relation.
func bondsOf(s []impl.Type) []bond {
	var out []bond
	exprs := map[[2]string][]impl.Expr{}
	for _, t := range s {
		for _, r := range t.Rels {
			exprs[[2]string{t.Name, r.Name}] = r.Expr
		}
	}
	for from, e := range exprs {
		var down func(at int64, away bool)
		down = func(at int64, away bool) {
			n := e[at]
			for _, a := range n.Allow {
				if a.Set != "" {
					out = append(out, bond{from, [2]string{a.Type, a.Set}, away})
				}
			}
			if n.Kind == impl.RwRel {
				out = append(out, bond{from, [2]string{from[0], n.Name}, away})
			}
			if n.Kind == impl.RwOver {
				for _, a := range exprs[[2]string{from[0], n.Over}][0].Allow {
					if goal := [2]string{a.Type, n.Name}; exprs[goal] != nil {
						out = append(out, bond{from, goal, away})
					}
				}
			}
			for i, kid := range n.Kids {
				down(kid, away || n.Kind == impl.RwBut && i == 1)
			}
		}
		down(int64(len(e))-1, false)
	}
	return out
}

// takesItselfAway asks each relation that is taken away whether it leads back to the one that takes it.
func takesItselfAway(bonds []bond) bool {
	for _, first := range bonds {
		if !first.away {
			continue
		}
		reached := map[[2]string]bool{first.on: true}
		for grown := true; grown; {
			grown = false
			for _, b := range bonds {
				if reached[b.from] && !reached[b.on] {
					reached[b.on], grown = true, true
				}
			}
		}
		if reached[first.from] {
			return true
		}
	}
	return false
}

func leastLevels(bonds []bond) map[[2]string]int64 {
	levels := map[[2]string]int64{}
	for grown := true; grown; {
		grown = false
		for _, b := range bonds {
			need := levels[b.on]
			if b.away {
				need++
			}
			if levels[b.from] < need {
				levels[b.from], grown = need, true
			}
		}
	}
	return levels
}

// randomSchema has all names right; whether there are strata is left to chance.
func randomSchema(r *rand.Rand) []impl.Type {
	rels := []string{"a", "b", "c"}
	var s []impl.Type
	for _, t := range []string{"one", "two"} {
		var list []impl.Relation
		for _, name := range rels {
			free := 1
			leaf := func() []impl.Expr {
				switch r.Intn(4) {
				case 0:
					return over("up", rels[r.Intn(len(rels))])
				case 1:
					if free > 0 {
						free--
						return this(user(), impl.Allowed{Type: []string{"one", "two"}[r.Intn(2)], Set: rels[r.Intn(len(rels))]})
					}
				case 2:
					if free > 0 {
						free--
						return this(user())
					}
				}
				return rel(rels[r.Intn(len(rels))])
			}
			list = append(list, relation(name, randomTree(r, 1+r.Intn(3), leaf)))
		}
		up := this(impl.Allowed{Type: []string{"one", "two"}[r.Intn(2)]}, user())
		s = append(s, typ(t, append(list, relation("up", up))...))
	}
	return append(s, typ("user"))
}

func TestStrataOfManySchemas(t *testing.T) {
	r := rand.New(rand.NewSource(2))
	count := map[bool]int{}
	tops := map[int64]int{}
	for range 20000 {
		s := randomSchema(r)
		bonds := bondsOf(s)
		right := !takesItselfAway(bonds)
		count[right]++
		if impl.SchemaOk(s) != right {
			t.Fatalf("SchemaOk is not %v: %v", right, s)
		}
		var levels map[[2]string]int64
		if right {
			levels = leastLevels(bonds)
		}
		top := int64(-1)
		for _, ty := range s {
			for _, re := range ty.Rels {
				want := int64(-1)
				if right {
					want = levels[[2]string{ty.Name, re.Name}]
				}
				top = max(top, want)
				if got := impl.StratumOf(s, ty.Name, re.Name); got != want {
					t.Fatalf("the stratum of %s of %s is %d, not %d: %v", re.Name, ty.Name, got, want, s)
				}
			}
		}
		tops[top]++
	}
	// Schemas that are all right, or all flat, would test nothing.
	if count[true] < 1000 || count[false] < 1000 || tops[0] < 100 || tops[1] < 100 || tops[2] < 100 {
		t.Error("too few of a sort", count, tops)
	}
}

func TestSchemasAreLeftAlone(t *testing.T) {
	r := rand.New(rand.NewSource(3))
	u := tupleOf(t, "one:x#a@user:y")
	for range 300 {
		s := randomSchema(r)
		old := copySchema(s)
		for _, ty := range s {
			for _, re := range ty.Rels {
				impl.ExprOk(re.Expr)
				impl.StratumOf(s, ty.Name, re.Name)
				e, ok := impl.RelOf(s, ty.Name, re.Name)
				again, _ := impl.RelOf(s, ty.Name, re.Name)
				if ok != impl.SchemaOk(s) || !same(e, again) {
					t.Fatal("another answer to the same arguments")
				}
				spoil(e)
				if ok && !same(again, re.Expr) {
					t.Fatal("two answers share memory, or an answer is another one")
				}
			}
		}
		if impl.Fits(s, u) != impl.Fits(s, u) || !same(s, old) {
			t.Fatal("an argument was written into, or an answer shares memory with it")
		}
	}
}

// Every list of this schema has room behind it, in which something stands.
func TestRoomBehindASchemaIsLeftAlone(t *testing.T) {
	allow := []impl.Allowed{user(), {Type: "doc"}, {Type: "team"}}
	kids := []int64{0, 1, 7}
	exprs := []impl.Expr{{Kind: impl.RwThis, Allow: allow[:1]}, {Kind: impl.RwRel, Name: "a"}, {Kind: impl.RwBut, Kids: kids[:2]}, {Kind: 7}}
	rels := []impl.Relation{relation("a", this(user())), relation("b", exprs[:3]), relation("c", nil)}
	types := []impl.Type{typ("doc", rels[:2]...), typ("user"), typ("zoo")}
	s := types[:2]
	s[0].Rels = rels[:2]
	old := copySchema(types)
	for range 2 {
		if e, ok := impl.RelOf(s, "doc", "b"); !ok || !same(e, exprs[:3]) {
			t.Error(e, ok)
		}
		wantStratum(t, s, "doc", "b", 1)
		if !impl.SchemaOk(s) || !impl.ExprOk(exprs[:3]) || !impl.Fits(s, tupleOf(t, "doc:a#b@user:x")) {
			t.Error("a right schema")
		}
	}
	if !same(allow, []impl.Allowed{user(), {Type: "doc"}, {Type: "team"}}) || !same(kids, []int64{0, 1, 7}) || exprs[3].Kind != 7 || rels[2].Name != "c" || !same(types, old) {
		t.Error("an argument or the room behind it was written into")
	}
}

func spoil(e []impl.Expr) {
	for i := range e {
		for j := range e[i].Allow {
			e[i].Allow[j] = impl.Allowed{}
		}
		for j := range e[i].Kids {
			e[i].Kids[j] = -1
		}
		e[i] = impl.Expr{}
	}
}
