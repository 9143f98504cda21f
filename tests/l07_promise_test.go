package tests

import (
	"math/rand"
	"slices"
	"testing"

	"loop.example/g00297/impl"
)

// What the document promises of migrations, asked of many schemas and tuples.

var mixedTypes = []string{"one", "two", "user"}

// mixedSchema differs from richSchema in that its types have not all the same relations, and its ways lead to several types.
func mixedSchema(r *rand.Rand) []impl.Type {
	var s []impl.Type
	for _, t := range mixedTypes {
		var list []impl.Relation
		for _, name := range []string{"a", "b", "c", "d"} {
			if r.Intn(3) > 0 && (t != "user" || r.Intn(4) == 0) {
				list = append(list, relation(name, nil))
			}
		}
		for _, name := range []string{"in", "up"} {
			if t != "user" && r.Intn(4) > 0 {
				list = append(list, relation(name, this(someTypes(r)...)))
			}
		}
		s = append(s, typ(t, list...))
	}
	for i := range s {
		for j := range s[i].Rels {
			if s[i].Rels[j].Expr == nil {
				s[i].Rels[j].Expr = mixedExpr(r, s, s[i])
			}
		}
	}
	return s
}

func someTypes(r *rand.Rand) []impl.Allowed {
	var list []impl.Allowed
	for _, i := range r.Perm(len(mixedTypes))[:1+r.Intn(len(mixedTypes))] {
		list = append(list, impl.Allowed{Type: mixedTypes[i]})
	}
	return list
}

// mixedExpr answers an expression of the type t: whether there are strata, and goals, is left to chance.
func mixedExpr(r *rand.Rand, s []impl.Type, t impl.Type) []impl.Expr {
	free := true
	own := func() impl.Relation { return t.Rels[r.Intn(len(t.Rels))] }
	return randomTree(r, 1+r.Intn(4), func() []impl.Expr {
		if free && r.Intn(2) == 0 {
			free = false
			allow := []impl.Allowed{user()}
			if other := s[r.Intn(len(s))]; len(other.Rels) > 0 && r.Intn(2) == 0 {
				allow = append(allow, impl.Allowed{Type: other.Name, Set: other.Rels[r.Intn(len(other.Rels))].Name})
			}
			return this(allow...)
		}
		if way := own(); (way.Name == "in" || way.Name == "up") && r.Intn(3) > 0 {
			return over(way.Name, []string{"a", "b", "c", "d", "in"}[r.Intn(5)])
		}
		return rel(own().Name)
	})
}

// mixedData answers right data; ids are few, so that facts lean on others.
func mixedData(r *rand.Rand) ([]impl.Type, []impl.Tuple) {
	s := mixedSchema(r)
	for !impl.SchemaOk(s) {
		s = mixedSchema(r)
	}
	return s, randomTuples(r, s, impl.MaxTuples)
}

// anyRelation answers one of the schema, most times.
func anyRelation(r *rand.Rand, s []impl.Type) (string, string) {
	t := s[r.Intn(len(s))]
	if len(t.Rels) == 0 || r.Intn(20) == 0 {
		return []string{"one", "user", "none", ""}[r.Intn(4)], []string{"a", "none", "", "this"}[r.Intn(4)]
	}
	return t.Name, t.Rels[r.Intn(len(t.Rels))].Name
}

func relsOf(s []impl.Type, name string) []string {
	var list []string
	for _, t := range s {
		for _, re := range t.Rels {
			if t.Name == name {
				list = append(list, re.Name)
			}
		}
	}
	return list
}

// allowedBy answers the types that the way of an RwOver of the type t leads to.
func allowedBy(t impl.Type, way string) []string {
	var list []string
	for _, re := range t.Rels {
		if re.Name == way {
			for _, a := range re.Expr[0].Allow {
				list = append(list, a.Type)
			}
		}
	}
	return list
}

// renamedByWords goes by the words of the document, of a right schema; it writes into a copy.
func renamedByWords(s []impl.Type, name string, from string, to string) ([]impl.Type, bool) {
	if !slices.Contains(relsOf(s, name), from) || !impl.NameOk(to) || slices.Contains(relsOf(s, name), to) {
		return nil, false
	}
	out := copySchema(s)
	for i, t := range s {
		for j, re := range t.Rels {
			for k, n := range re.Expr {
				m := &out[i].Rels[j].Expr[k]
				for h, a := range n.Allow {
					if a.Type == name && a.Set == from {
						m.Allow[h].Set = to
					}
				}
				if n.Kind == impl.RwRel && t.Name == name && n.Name == from {
					m.Name = to
				}
				if n.Kind != impl.RwOver {
					continue
				}
				if t.Name == name && n.Over == from {
					m.Over = to
				}
				leads := allowedBy(t, n.Over)
				if !slices.Contains(leads, name) {
					continue
				}
				if n.Name == to {
					return nil, false
				}
				if n.Name == from {
					m.Name = to
					for _, other := range leads {
						if rels := relsOf(s, other); other != name && (slices.Contains(rels, from) || slices.Contains(rels, to)) {
							return nil, false
						}
					}
				}
			}
			if t.Name == name && re.Name == from {
				out[i].Rels[j].Name = to
			}
		}
		slices.SortFunc(out[i].Rels, func(a, b impl.Relation) int {
			if a.Name < b.Name {
				return -1
			}
			return 1
		})
	}
	return out, true
}

func renamedFacts(list []impl.Fact, name string, from string, to string) []impl.Fact {
	out := slices.Clone(list)
	for i, f := range out {
		if f.Object.Type == name && f.Rel == from {
			out[i].Rel = to
		}
	}
	slices.SortFunc(out, byText)
	return out
}

func TestARenamedSchemaSaysWhatItSaid(t *testing.T) {
	r := rand.New(rand.NewSource(71))
	refused, done, facts := 0, 0, 0
	for range 4000 {
		s, l := mixedData(r)
		name, from := anyRelation(r, s)
		to := []string{"a", "b", "c", "d", "in", "up", "e", "f", "aa", "z", "type", "this", "", "A"}[r.Intn(14)]
		got, ok := impl.Renamed(s, name, from, to)
		want, fine := renamedByWords(s, name, from, to)
		if ok != fine || !same(got, want) {
			t.Fatalf("%s of %s to %s is %v, not %v, and\n%s, not\n%s, of\n%s", from, name, to, ok, fine, schemaTextOf(got), schemaTextOf(want), impl.SchemaText(s))
		}
		if !ok {
			refused++
			continue
		}
		done++
		if !impl.SchemaOk(got) {
			t.Fatalf("%s of %s to %s makes a schema that is not right:\n%s", from, name, to, schemaTextOf(got))
		}
		if back, ok := impl.Renamed(got, name, to, from); !ok || !same(back, s) {
			t.Fatalf("%s of %s to %s and back is %v,\n%s, not\n%s", from, name, to, ok, schemaTextOf(back), schemaTextOf(s))
		}
		m := impl.RenamedTuples(l, name, from, to)
		if len(m) != len(l) || len(impl.Unfit(got, m)) > 0 || !slices.Equal(impl.RenamedTuples(m, name, to, from), l) {
			t.Fatalf("the tuples are %s, of %s", tuplesText(m), tuplesText(l))
		}
		said := renamedFacts(impl.Facts(s, l), name, from, to)
		if says := impl.Facts(got, m); !slices.Equal(says, said) {
			t.Fatalf("%s of %s to %s says\n%s, not\n%s, of\n%s%s", from, name, to, factsText(says), factsText(said), impl.SchemaText(s), tuplesText(l))
		}
		facts += len(said)
	}
	if refused < 500 || done < 1000 || facts < 5000 {
		t.Error("too few of a sort", refused, done, facts)
	}
}

// Each cause for which two goals might be mixed is met, and nothing else refuses a name that is free.
func TestRefusedRenamingsAreMet(t *testing.T) {
	r := rand.New(rand.NewSource(72))
	with := map[string]int{}
	for range 4000 {
		s, _ := mixedData(r)
		name, from := anyRelation(r, s)
		to := []string{"a", "b", "c", "d", "e"}[r.Intn(5)]
		rels := relsOf(s, name)
		if !slices.Contains(rels, from) || slices.Contains(rels, to) {
			continue
		}
		_, ok := impl.Renamed(s, name, from, to)
		causes := 0
		for _, ty := range s {
			for _, re := range ty.Rels {
				for _, n := range re.Expr {
					leads := allowedBy(ty, n.Over)
					if n.Kind != impl.RwOver || !slices.Contains(leads, name) {
						continue
					}
					if n.Name == to {
						with["to"]++
						causes++
					}
					for _, other := range leads {
						if n.Name == from && other != name && slices.Contains(relsOf(s, other), from) {
							with["two from"]++
							causes++
						}
						if n.Name == from && other != name && slices.Contains(relsOf(s, other), to) {
							with["from and to"]++
							causes++
						}
					}
				}
			}
		}
		if ok != (causes == 0) {
			t.Fatalf("%s of %s to %s is %v of\n%s", from, name, to, ok, impl.SchemaText(s))
		}
		if ok {
			with["none"]++
		}
	}
	if with["to"] < 20 || with["two from"] < 20 || with["from and to"] < 20 || with["none"] < 500 {
		t.Error("too few of a sort", with)
	}
}

// inFull answers the expression with another one in the place of each RwRel with that name, from the top.
func inFull(e []impl.Expr, at int64, name string, by []impl.Expr) []impl.Expr {
	n := e[at]
	if n.Kind == impl.RwRel && n.Name == name {
		return copyExpr(by)
	}
	if len(n.Kids) == 0 {
		return copyExpr([]impl.Expr{n})
	}
	var kids [][]impl.Expr
	for _, kid := range n.Kids {
		kids = append(kids, inFull(e, kid, name, by))
	}
	return node(n.Kind, kids)
}

// withoutThis answers one of the relations that no tuple tells of, most times.
func withoutThis(r *rand.Rand, s []impl.Type) (string, string) {
	var keys [][2]string
	for _, t := range s {
		for _, re := range t.Rels {
			if !slices.ContainsFunc(re.Expr, func(n impl.Expr) bool { return n.Kind == impl.RwThis }) {
				keys = append(keys, [2]string{t.Name, re.Name})
			}
		}
	}
	if len(keys) == 0 || r.Intn(4) == 0 {
		return anyRelation(r, s)
	}
	key := keys[r.Intn(len(keys))]
	return key[0], key[1]
}

// inlinedByWords asks only how many nodes there would be: names and strata are there if they were.
func inlinedByWords(s []impl.Type, name string, of string) ([]impl.Type, bool) {
	e, there := impl.RelOf(s, name, of)
	for _, n := range e {
		there = there && n.Kind != impl.RwThis && (n.Kind != impl.RwRel || n.Name != of)
	}
	if !there {
		return nil, false
	}
	out := copySchema(s)
	for i, t := range out {
		for j, re := range t.Rels {
			if t.Name == name && re.Name != of {
				out[i].Rels[j].Expr = inFull(re.Expr, int64(len(re.Expr))-1, of, e)
			}
			if len(out[i].Rels[j].Expr) > impl.MaxExpr {
				return nil, false
			}
		}
	}
	return out, true
}

func TestASchemaWithANameInFullSaysWhatItSaid(t *testing.T) {
	r := rand.New(rand.NewSource(73))
	refused, done, others, facts := 0, 0, 0, 0
	for i := range 4000 {
		s, l := mixedData(r)
		if i%3 == 0 {
			// Longer expressions without tuples of their own, so that some grow too long.
			s = onDocs(relation("a", this(user())), relation("b", longTree(r)), relation("c", longTree(r)), relation("d", this(user())))
			if !impl.SchemaOk(s) {
				continue
			}
			l = randomTuples(r, s, impl.MaxTuples)
		}
		name, of := withoutThis(r, s)
		got, ok := impl.Inlined(s, name, of)
		want, fine := inlinedByWords(s, name, of)
		if ok != fine || !same(got, want) {
			t.Fatalf("%s of %s in full is %v, not %v, and\n%s, not\n%s, of\n%s", of, name, ok, fine, schemaTextOf(got), schemaTextOf(want), impl.SchemaText(s))
		}
		if !ok {
			refused++
			continue
		}
		done++
		said, says := impl.Facts(s, l), impl.Facts(got, l)
		if !slices.Equal(said, says) {
			t.Fatalf("%s of %s in full says\n%s, not\n%s, of\n%s%s", of, name, factsText(says), factsText(said), impl.SchemaText(s), tuplesText(l))
		}
		if !same(got, s) {
			others++
			facts += len(said)
		}
	}
	if refused < 500 || done < 500 || others < 300 || facts < 2000 {
		t.Error("too few of a sort", refused, done, others, facts)
	}
}

func longTree(r *rand.Rand) []impl.Expr {
	return randomTree(r, 1+r.Intn(7), func() []impl.Expr { return rel([]string{"a", "b", "c", "d"}[r.Intn(4)]) })
}

// prunedByWords lets a relation go unless something of another one names it: of a right schema it goes through all that may.
func prunedByWords(s []impl.Type, name string, of string) ([]impl.Type, bool) {
	if !slices.Contains(relsOf(s, name), of) {
		return nil, false
	}
	out := copySchema(s)
	for i, t := range s {
		for j, re := range t.Rels {
			if t.Name == name && re.Name == of {
				if out[i].Rels = slices.Delete(out[i].Rels, j, j+1); len(out[i].Rels) == 0 {
					out[i].Rels = nil
				}
				continue
			}
			for _, n := range re.Expr {
				named := n.Kind == impl.RwRel && t.Name == name && n.Name == of || slices.Contains(n.Allow, impl.Allowed{Type: name, Set: of})
				if n.Kind == impl.RwOver {
					named = t.Name == name && n.Over == of || n.Name == of && slices.Contains(allowedBy(t, n.Over), name)
				}
				if named {
					return nil, false
				}
			}
		}
	}
	return out, true
}

func TestASchemaWithoutARelationSaysOfAllOthersWhatItSaid(t *testing.T) {
	r := rand.New(rand.NewSource(74))
	refused, done, facts, itself := 0, 0, 0, 0
	for range 4000 {
		s, l := mixedData(r)
		name, of := anyRelation(r, s)
		got, ok := impl.Pruned(s, name, of)
		want, fine := prunedByWords(s, name, of)
		if ok != fine || !same(got, want) {
			t.Fatalf("%s of %s pruned is %v, not %v, and\n%s, not\n%s, of\n%s", of, name, ok, fine, schemaTextOf(got), schemaTextOf(want), impl.SchemaText(s))
		}
		if !ok {
			refused++
			continue
		}
		done++
		l = slices.DeleteFunc(l, func(u impl.Tuple) bool { return u.Object.Type == name && u.Rel == of })
		if unfit := impl.Unfit(got, l); len(unfit) > 0 {
			t.Fatalf("without %s of %s these do not fit: %s", of, name, tuplesText(unfit))
		}
		said := slices.DeleteFunc(impl.Facts(s, l), func(f impl.Fact) bool { return f.Object.Type == name && f.Rel == of })
		if says := impl.Facts(got, l); !slices.Equal(says, said) {
			t.Fatalf("without %s of %s it says\n%s, not\n%s, of\n%s%s", of, name, factsText(says), factsText(said), impl.SchemaText(s), tuplesText(l))
		}
		facts += len(said)
		for _, b := range bondsOf(s) {
			if b.on == [2]string{name, of} {
				itself++
			}
		}
	}
	if refused < 500 || done < 500 || facts < 2000 || itself < 50 {
		t.Error("too few of a sort", refused, done, facts, itself)
	}
}

func TestRenamedTuplesOfManyLists(t *testing.T) {
	r := rand.New(rand.NewSource(75))
	shorter := 0
	for range 2000 {
		_, l := mixedData(r)
		name, from, to := []string{"one", "two", "user", ""}[r.Intn(4)], []string{"a", "b", "in", ""}[r.Intn(4)], []string{"a", "b", "up", "zz"}[r.Intn(4)]
		texts := map[string]bool{}
		var want []impl.Tuple
		for _, u := range l {
			if u.Object.Type == name && u.Rel == from {
				u.Rel = to
			}
			if u.Subject.Type == name && u.Set != "" && u.Set == from {
				u.Set = to
			}
			if !texts[impl.TupleText(u)] {
				want = append(want, u)
			}
			texts[impl.TupleText(u)] = true
		}
		got := impl.RenamedTuples(l, name, from, to)
		if !slices.Equal(got, inTextOrder(want)) {
			t.Fatalf("%s of %s to %s: %s, of %s", from, name, to, tuplesText(got), tuplesText(l))
		}
		if len(got) < len(l) {
			shorter++
		}
	}
	if shorter < 40 {
		t.Error("too few that become alike", shorter)
	}
}

func TestUnfitOfManyLists(t *testing.T) {
	r := rand.New(rand.NewSource(76))
	count := map[bool]int{}
	for range 1000 {
		s, _ := mixedData(r)
		_, l := mixedData(r)
		var want []impl.Tuple
		for _, u := range l {
			fits := impl.Fits(s, u)
			count[fits]++
			if !fits {
				want = append(want, u)
			}
		}
		if got := impl.Unfit(s, l); !slices.Equal(got, want) {
			t.Fatalf("%s, not %s", tuplesText(got), tuplesText(want))
		}
	}
	if count[true] < 1000 || count[false] < 1000 {
		t.Error("too few of a sort", count)
	}
}

func TestMigrationsLeaveArgumentsAlone(t *testing.T) {
	r := rand.New(rand.NewSource(77))
	for range 400 {
		s, l := mixedData(r)
		for i := range s {
			s[i].Rels, _ = roomy(s[i].Rels, relation("room", this(user())))
			for j := range s[i].Rels {
				s[i].Rels[j].Expr, _ = roomy(s[i].Rels[j].Expr, impl.Expr{Kind: 7})
			}
		}
		oldSchema, oldTuples := copySchema(s), slices.Clone(l)
		s, schemaKept := roomy(s, typ("zoo", relation("a", this(user()))))
		l, tuplesKept := roomy(l, impl.Tuple{Rel: "room"})
		name, of := anyRelation(r, s)
		for range 2 {
			renamed, _ := impl.Renamed(s, name, of, "e")
			inlined, _ := impl.Inlined(s, name, of)
			pruned, _ := impl.Pruned(s, name, of)
			tuples := impl.RenamedTuples(l, name, of, "e")
			unfit := impl.Unfit(pruned, l)
			wantApart(t, "migrations", s, l, renamed, inlined, pruned, tuples, unfit)
		}
		for _, ty := range s {
			if room := ty.Rels[:len(ty.Rels)+1]; room[len(ty.Rels)].Name != "room" {
				t.Fatal("the room behind relations was written into")
			}
			for _, re := range ty.Rels {
				if room := re.Expr[:len(re.Expr)+1]; room[len(re.Expr)].Kind != 7 {
					t.Fatal("the room behind nodes was written into")
				}
			}
		}
		if !same(s, oldSchema) || !slices.Equal(l, oldTuples) || !schemaKept() || !tuplesKept() {
			t.Fatal("an argument or the room behind it was written into")
		}
	}
}

// Schemas made of odd things: each is answered, and of one that is not right nothing is told.
func TestOddMigrationsAreAnswered(t *testing.T) {
	r := rand.New(rand.NewSource(78))
	count := map[bool]int{}
	for range 3000 {
		s := mixedSchema(r)
		if r.Intn(2) == 0 {
			s = randomSchema(r)
			spoilSomewhere(r, s)
		}
		right := impl.SchemaOk(s)
		count[right]++
		name, of := anyRelation(r, s)
		renamed, one := impl.Renamed(s, name, of, "e")
		inlined, two := impl.Inlined(s, name, of)
		pruned, three := impl.Pruned(s, name, of)
		unfit := impl.Unfit(s, tuplesOf(t, "team:x#none@user:y"))
		if !right && (one || two || three || len(renamed)+len(inlined)+len(pruned)+len(unfit) > 0) || right && len(unfit) != 1 {
			t.Fatalf("%v, %v, %v of %v", one, two, three, s)
		}
		if one && !impl.SchemaOk(renamed) || two && !impl.SchemaOk(inlined) || three && !impl.SchemaOk(pruned) {
			t.Fatalf("%s of %s makes a schema that is not right of %v", of, name, s)
		}
	}
	if count[true] < 300 || count[false] < 300 {
		t.Error("too few of a sort", count)
	}
}
