package tests

import (
	"math/rand"
	"slices"
	"testing"

	"loop.example/g00297/impl"
)

// What the document promises of facts, asked of many schemas and tuples.

// asker works a fact out from the top, without strata and without rounds.
type asker struct {
	exprs map[[2]string][]impl.Expr
	l     []impl.Tuple
	found map[impl.Fact]bool
}

func askerOf(s []impl.Type, l []impl.Tuple) asker {
	a := asker{map[[2]string][]impl.Expr{}, l, map[impl.Fact]bool{}}
	for _, t := range s {
		for _, r := range t.Rels {
			a.exprs[[2]string{t.Name, r.Name}] = r.Expr
		}
	}
	return a
}

// follows takes a fact that is asked on the way to itself for none: one that is there has a way without it.
func (a asker) follows(f impl.Fact, way []impl.Fact) bool {
	e := a.exprs[[2]string{f.Object.Type, f.Rel}]
	if len(e) == 0 || slices.Contains(way, f) {
		return false
	}
	way = append(slices.Clone(way), f)
	holds := a.found[f] || wholeHolds(e, a.l, f, func(g impl.Fact, away bool) bool {
		if away {
			// What is taken away never leads back here.
			return a.follows(g, nil)
		}
		return a.follows(g, way)
	})
	if holds {
		a.found[f] = true
	}
	return holds
}

// wholeHolds goes by the words of the document; known is asked of each fact, and told whether it is one that is taken away.
func wholeHolds(e []impl.Expr, l []impl.Tuple, f impl.Fact, known func(g impl.Fact, away bool) bool) bool {
	var holds func(at int64, away bool) bool
	holds = func(at int64, away bool) bool {
		n := e[at]
		count := 0
		switch n.Kind {
		case impl.RwThis:
			for _, u := range l {
				if u.Object != f.Object || u.Rel != f.Rel {
					continue
				}
				if u.Set == "" && u.Subject == f.User || u.Set != "" && known(impl.Fact{Object: u.Subject, Rel: u.Set, User: f.User}, away) {
					return true
				}
			}
			return false
		case impl.RwRel:
			return known(impl.Fact{Object: f.Object, Rel: n.Name, User: f.User}, away)
		case impl.RwOver:
			for _, u := range l {
				if u.Object == f.Object && u.Rel == n.Over && known(impl.Fact{Object: u.Subject, Rel: n.Name, User: f.User}, away) {
					return true
				}
			}
			return false
		case impl.RwBut:
			return holds(n.Kids[0], away) && !holds(n.Kids[1], true)
		}
		for _, kid := range n.Kids {
			if holds(kid, away) {
				count++
			}
		}
		return n.Kind == impl.RwUnion && count > 0 || n.Kind == impl.RwBoth && count == len(n.Kids)
	}
	return holds(int64(len(e))-1, false)
}

// randomData answers right data: a schema that has strata, and up to most tuples that fit.
func randomData(r *rand.Rand, most int) ([]impl.Type, []impl.Tuple) {
	s := richSchema(r)
	for !impl.SchemaOk(s) {
		s = richSchema(r)
	}
	return s, randomTuples(r, s, most)
}

// richSchema differs from randomSchema in that most relations have tuples of their own and lean on those ahead of them, so that there are strata and facts to take away.
func richSchema(r *rand.Rand) []impl.Type {
	types := []string{"one", "two"}
	var s []impl.Type
	for _, t := range types {
		var list []impl.Relation
		for i, name := range richRels {
			e := richExpr(r, i)
			if i > 0 && r.Intn(2) == 0 {
				low := randomTree(r, 1+r.Intn(2), func() []impl.Expr { return richLeaf(r, i) })
				e = node(int64(impl.RwBoth+r.Intn(2)), [][]impl.Expr{e, low})
			}
			list = append(list, relation(name, e))
		}
		up := this(impl.Allowed{Type: types[r.Intn(2)]}, user())
		s = append(s, typ(t, append(list, relation("up", up))...))
	}
	return append(s, typ("user"))
}

var richRels = []string{"a", "b", "c"}

// richExpr answers an expression that leans, most times, on none behind the place i.
func richExpr(r *rand.Rand, i int) []impl.Expr {
	most := i + 1
	if r.Intn(4) == 0 {
		most = len(richRels)
	}
	allow := []impl.Allowed{user()}
	for range r.Intn(3) {
		if a := (impl.Allowed{Type: []string{"one", "two"}[r.Intn(2)], Set: richRels[r.Intn(most)]}); !slices.Contains(allow, a) {
			allow = append(allow, a)
		}
	}
	kids := [][]impl.Expr{this(allow...)}
	for range r.Intn(3) {
		kids = append(kids, richLeaf(r, most))
	}
	r.Shuffle(len(kids), func(i, j int) { kids[i], kids[j] = kids[j], kids[i] })
	if len(kids) == 1 {
		return kids[0]
	}
	if r.Intn(4) == 0 {
		return both(kids...)
	}
	return union(kids...)
}

func richLeaf(r *rand.Rand, most int) []impl.Expr {
	name := richRels[r.Intn(most)]
	if r.Intn(3) == 0 {
		return over("up", name)
	}
	return rel(name)
}

func randomTuples(r *rand.Rand, s []impl.Type, most int) []impl.Tuple {
	fit := fittingTuples(s, "x", "y")
	shuffleTuples(r, fit)
	return inTextOrder(fit[:min(len(fit), r.Intn(most+1))])
}

// fittingTuples answers all tuples of these ids that fit.
func fittingTuples(s []impl.Type, ids ...string) []impl.Tuple {
	var fit []impl.Tuple
	for _, ty := range s {
		for _, re := range ty.Rels {
			for _, n := range re.Expr {
				for _, a := range n.Allow {
					for _, id := range ids {
						for _, other := range ids {
							fit = append(fit, impl.Tuple{Object: impl.Object{Type: ty.Name, Id: id}, Rel: re.Name, Subject: impl.Object{Type: a.Type, Id: other}, Set: a.Set})
						}
					}
				}
			}
		}
	}
	return fit
}

func shuffleTuples(r *rand.Rand, l []impl.Tuple) {
	r.Shuffle(len(l), func(i, j int) { l[i], l[j] = l[j], l[i] })
}

func inTextOrder(l []impl.Tuple) []impl.Tuple {
	out := slices.Clone(l)
	slices.SortFunc(out, func(a, b impl.Tuple) int {
		if impl.TupleText(a) < impl.TupleText(b) {
			return -1
		}
		return 1
	})
	return out
}

// everyFact answers the facts of all objects there might be, some more among them, and all users, with each relation of the schema and one that it lacks.
func everyFact() []impl.Fact {
	var objects []impl.Object
	for _, name := range []string{"one", "two", "user", "none"} {
		for _, id := range []string{"x", "y", "w"} {
			objects = append(objects, impl.Object{Type: name, Id: id})
		}
	}
	var list []impl.Fact
	for _, o := range objects {
		for _, name := range []string{"a", "b", "c", "up", "va", "vb", "none"} {
			for _, u := range objects {
				list = append(list, impl.Fact{Object: o, Rel: name, User: u})
			}
		}
	}
	return list
}

func setOfFacts(list []impl.Fact) map[impl.Fact]bool {
	set := map[impl.Fact]bool{}
	for _, f := range list {
		set[f] = true
	}
	return set
}

func TestFactsAreWhatFollowsFromTheTop(t *testing.T) {
	r := rand.New(rand.NewSource(41))
	all := everyFact()
	count, top := 0, map[int64]int{}
	for range 600 {
		s, l := randomData(r, impl.MaxTuples)
		list := impl.Facts(s, l)
		there := setOfFacts(list)
		a := askerOf(s, l)
		for _, f := range all {
			if a.follows(f, nil) != there[f] {
				t.Fatalf("%s is told to be %v of\n%s%v", factText(f), there[f], impl.SchemaText(s), l)
			}
			delete(there, f)
		}
		if len(there) != 0 {
			t.Fatalf("facts of nowhere: %v of\n%s%v", there, impl.SchemaText(s), l)
		}
		count += len(list)
		for _, f := range list {
			top[impl.StratumOf(s, f.Object.Type, f.Rel)]++
		}
	}
	if count < 4000 || top[0] < 400 || top[1] < 400 || top[2] < 40 {
		t.Error("too few facts of a sort", count, top)
	}
}

func TestAFactIsThereJustWhereItFollows(t *testing.T) {
	r := rand.New(rand.NewSource(42))
	all := everyFact()
	for range 150 {
		s, l := randomData(r, impl.MaxTuples)
		there := setOfFacts(impl.Facts(s, l))
		exprs := askerOf(s, l).exprs
		for _, f := range all {
			e := exprs[[2]string{f.Object.Type, f.Rel}]
			follows := len(e) > 0 && wholeHolds(e, l, f, func(g impl.Fact, _ bool) bool { return there[g] })
			if follows != there[f] {
				t.Fatalf("%s is told to be %v of\n%s%v", factText(f), there[f], impl.SchemaText(s), l)
			}
		}
	}
}

func TestFactsAreToldInOrderAndOnce(t *testing.T) {
	r := rand.New(rand.NewSource(43))
	for range 300 {
		s, l := randomData(r, impl.MaxTuples)
		last := ""
		for _, f := range impl.Facts(s, l) {
			if text := factText(f); text <= last {
				t.Fatalf("%s behind %s", text, last)
			} else {
				last = text
			}
		}
	}
}

func TestARelationToldByObjectsIsWhatItsTuplesTell(t *testing.T) {
	r := rand.New(rand.NewSource(44))
	count := 0
	for range 300 {
		s, l := randomData(r, impl.MaxTuples)
		var told, facts []impl.Fact
		for _, u := range l {
			if u.Rel == "up" {
				told = append(told, impl.Fact{Object: u.Object, Rel: u.Rel, User: u.Subject})
			}
		}
		for _, f := range impl.Facts(s, l) {
			if f.Rel == "up" {
				facts = append(facts, f)
			}
		}
		if !slices.Equal(told, facts) {
			t.Fatalf("%v, not %v", facts, told)
		}
		count += len(told)
	}
	if count < 300 {
		t.Error("too few tuples", count)
	}
}

// Two relations more, va and vb, that nobody names: whatever they take away, there are strata.
func TestWhatARelationOfSidesSaysItsSidesSay(t *testing.T) {
	r := rand.New(rand.NewSource(45))
	rels := []string{"a", "b", "c", "up"}
	said := map[int64]int{}
	for range 400 {
		s, _ := randomData(r, 0)
		sides := map[string][]string{}
		kinds := map[string]int64{}
		for _, name := range []string{"va", "vb"} {
			kinds[name] = int64(impl.RwUnion + r.Intn(3))
			many := 2
			if kinds[name] != impl.RwBut {
				many += r.Intn(3)
			}
			var kids [][]impl.Expr
			for range many {
				sides[name] = append(sides[name], rels[r.Intn(len(rels))])
				kids = append(kids, rel(sides[name][len(kids)]))
			}
			s[0].Rels = append(s[0].Rels, relation(name, node(kinds[name], kids)))
		}
		there := setOfFacts(impl.Facts(s, randomTuples(r, s, impl.MaxTuples)))
		for _, f := range everyFact() {
			if f.Object.Type != "one" || sides[f.Rel] == nil {
				continue
			}
			if sidesSay(f, kinds[f.Rel], sides[f.Rel], there) != there[f] {
				t.Fatalf("%s is told to be %v of\n%s%v", factText(f), there[f], impl.SchemaText(s), there)
			}
			if there[f] {
				said[kinds[f.Rel]]++
			}
		}
	}
	if said[impl.RwUnion] < 200 || said[impl.RwBoth] < 100 || said[impl.RwBut] < 100 {
		t.Error("too few facts of a sort", said)
	}
}

func sidesSay(f impl.Fact, kind int64, sides []string, there map[impl.Fact]bool) bool {
	var say []bool
	for _, side := range sides {
		say = append(say, there[impl.Fact{Object: f.Object, Rel: side, User: f.User}])
	}
	switch kind {
	case impl.RwUnion:
		return slices.Contains(say, true)
	case impl.RwBoth:
		return !slices.Contains(say, false)
	}
	return say[0] && !say[1]
}

func TestLookupsAreWhatIsChecked(t *testing.T) {
	r := rand.New(rand.NewSource(46))
	wrong := impl.Fact{Object: impl.Object{Type: "one", Id: "X"}, Rel: "this", User: impl.Object{Type: "", Id: ""}}
	for range 6 {
		s, l := randomData(r, impl.MaxTuples)
		list := impl.Facts(s, l)
		there := setOfFacts(list)
		users, objects := map[[3]string][]impl.Object{}, map[[4]string][]impl.Object{}
		for _, f := range list {
			left, right := [3]string{f.Object.Type, f.Object.Id, f.Rel}, [4]string{f.Object.Type, f.Rel, f.User.Type, f.User.Id}
			users[left] = append(users[left], f.User)
			objects[right] = append(objects[right], f.Object)
		}
		for _, f := range append(everyFact(), wrong) {
			left, right := [3]string{f.Object.Type, f.Object.Id, f.Rel}, [4]string{f.Object.Type, f.Rel, f.User.Type, f.User.Id}
			if impl.Check(s, l, f) != there[f] {
				t.Fatalf("Check of %v is not %v", f, there[f])
			}
			if got := impl.UsersOf(s, l, f.Object, f.Rel); !slices.Equal(got, users[left]) {
				t.Fatalf("the users of %v are %v, not %v", left, got, users[left])
			}
			if got := impl.ObjectsOf(s, l, f.Object.Type, f.Rel, f.User); !slices.Equal(got, objects[right]) {
				t.Fatalf("the objects of %v are %v, not %v", right, got, objects[right])
			}
		}
	}
}

// withoutBut answers the schema with an RwBoth or an RwUnion in the place of each RwBut.
func withoutBut(r *rand.Rand, s []impl.Type) []impl.Type {
	out := copySchema(s)
	for i := range out {
		for j := range out[i].Rels {
			for k := range out[i].Rels[j].Expr {
				if n := &out[i].Rels[j].Expr[k]; n.Kind == impl.RwBut {
					n.Kind = int64(impl.RwUnion + r.Intn(2))
				}
			}
		}
	}
	return out
}

func TestATupleMoreTakesNoFactAway(t *testing.T) {
	r := rand.New(rand.NewSource(47))
	brought, taken := 0, 0
	for range 250 {
		s, l := randomData(r, impl.MaxTuples)
		for i := range l {
			less := slices.Delete(slices.Clone(l), i, i+1)
			plain := withoutBut(r, s)
			there := setOfFacts(impl.Facts(plain, l))
			old := impl.Facts(plain, less)
			for _, f := range old {
				if !there[f] {
					t.Fatalf("%s takes %s away:\n%s%v", impl.TupleText(l[i]), factText(f), impl.SchemaText(plain), less)
				}
			}
			brought += len(there) - len(old)
			there = setOfFacts(impl.Facts(s, l))
			for _, f := range impl.Facts(s, less) {
				if !there[f] {
					taken++
				}
			}
		}
	}
	// Where something is taken away a tuple more may take a fact away, or these schemas would test nothing.
	if brought < 1000 || taken < 50 {
		t.Error("too few", brought, taken)
	}
}

func TestDataAreLeftAlone(t *testing.T) {
	r := rand.New(rand.NewSource(48))
	for range 100 {
		s, l := randomData(r, impl.MaxTuples)
		oldSchema, oldTuples := copySchema(s), slices.Clone(l)
		// Something stands in the room behind both.
		types := append(copySchema(s), typ("zoo", relation("a", this(user()))))
		room := append(slices.Clone(l), impl.Tuple{Rel: "room"})
		s, l = types[:len(s)], room[:len(l)]
		first := impl.Facts(s, l)
		for _, f := range append(slices.Clone(first), impl.Fact{}) {
			users, objects := impl.UsersOf(s, l, f.Object, f.Rel), impl.ObjectsOf(s, l, f.Object.Type, f.Rel, f.User)
			if !same(users, impl.UsersOf(s, l, f.Object, f.Rel)) || !same(objects, impl.ObjectsOf(s, l, f.Object.Type, f.Rel, f.User)) {
				t.Fatal("another answer to the same arguments")
			}
			clear(users)
			clear(objects)
			if impl.Check(s, l, f) != (f != impl.Fact{}) {
				t.Fatalf("Check of %v", f)
			}
		}
		second := impl.Facts(s, l)
		clear(second)
		if !same(first, impl.Facts(oldSchema, oldTuples)) {
			t.Fatal("two answers share memory, or the same arguments have two")
		}
		if !same(s, oldSchema) || !same(types[len(s)], typ("zoo", relation("a", this(user())))) || !slices.Equal(l, oldTuples) || room[len(l)] != (impl.Tuple{Rel: "room"}) {
			t.Fatal("an argument or the room behind it was written into")
		}
	}
}

// Data made of odd things: each is answered, and where they are not right there are no facts.
func TestOddDataAreAnswered(t *testing.T) {
	r := rand.New(rand.NewSource(49))
	count := map[bool]int{}
	for range 3000 {
		s, l := randomData(r, 6)
		if r.Intn(2) == 0 {
			s = randomSchema(r)
		}
		if r.Intn(3) == 0 {
			spoilSomewhere(r, s)
		}
		if r.Intn(3) == 0 && len(l) > 0 {
			l[r.Intn(len(l))] = impl.Tuple{Object: impl.Object{Type: "one", Id: "x"}, Rel: []string{"a", "up", "none", ""}[r.Intn(4)], Subject: impl.Object{Type: "user", Id: []string{"y", "Y"}[r.Intn(2)]}}
		}
		right := impl.SchemaOk(s) && impl.TuplesOk(l)
		for _, u := range l {
			right = right && impl.Fits(s, u)
		}
		count[right]++
		if list := impl.Facts(s, l); !right && len(list) > 0 {
			t.Fatalf("%v of %v and %v", list, s, l)
		}
		impl.Check(s, l, impl.Fact{})
		impl.UsersOf(s, l, impl.Object{}, "")
		impl.ObjectsOf(s, l, "", "", impl.Object{})
	}
	if count[true] < 300 || count[false] < 300 {
		t.Error("too few of a sort", count)
	}
}

func spoilSomewhere(r *rand.Rand, s []impl.Type) {
	rels := s[r.Intn(2)].Rels
	e := rels[r.Intn(len(rels))].Expr
	n := &e[r.Intn(len(e))]
	switch r.Intn(5) {
	case 0:
		n.Kind = int64(r.Intn(9)) - 1
	case 1:
		n.Kids = append(n.Kids, int64(r.Intn(20))-2)
	case 2:
		n.Allow = nil
	case 3:
		n.Name = "none"
	case 4:
		n.Over = "a"
	}
}
