package tests

import (
	"math/rand"
	"slices"
	"testing"

	"loop.example/g00297/impl"
)

func wantExpr(t *testing.T, what string, e []impl.Expr, want bool) {
	t.Helper()
	if impl.ExprOk(e) != want {
		t.Errorf("%s: ExprOk is not %v", what, want)
	}
}

func wantSchema(t *testing.T, what string, s []impl.Type, want bool) {
	t.Helper()
	if impl.SchemaOk(s) != want {
		t.Errorf("%s: SchemaOk is not %v", what, want)
	}
}

func wantStratum(t *testing.T, s []impl.Type, typ string, rel string, want int64) {
	t.Helper()
	if got := impl.StratumOf(s, typ, rel); got != want {
		t.Errorf("the stratum of %s of %s is %d, not %d", rel, typ, got, want)
	}
}

func TestRightExpressions(t *testing.T) {
	a, b, c := rel("a"), rel("b"), rel("c")
	for what, e := range map[string][]impl.Expr{
		"this": this(user()), "this with a set": this(impl.Allowed{Type: "group", Set: "member"}),
		"this of one type twice": this(impl.Allowed{Type: "a"}, impl.Allowed{Type: "a", Set: "b"}, impl.Allowed{Type: "a", Set: "c"}),
		"this not in order":      this(impl.Allowed{Type: "b"}, impl.Allowed{Type: "a"}),
		"rel":                    a, "over": over("a", "b"), "over itself": over("a", "a"),
		"union": union(a, b), "both": both(a, b), "but": but(a, b), "the same twice": union(a, a),
		"deep left": but(union(both(a, b), c), a), "deep right": but(a, union(c, both(a, b))),
		"this below but": but(a, union(b, this(user()))), "this last": union(a, b, this(user())),
		"all kinds":            union(this(user()), over("a", "b"), both(a, b), but(b, c)),
		"empty lists for none": {{Kind: impl.RwRel, Name: "a", Allow: []impl.Allowed{}, Kids: []int64{}}},
	} {
		wantExpr(t, what, e, true)
	}
}

func TestWrongNodes(t *testing.T) {
	one := []impl.Allowed{user()}
	for what, n := range map[string]impl.Expr{
		"no kind": {}, "kind 0": {Name: "a"}, "kind 7": {Kind: 7, Name: "a"}, "kind -1": {Kind: -1, Name: "a"},
		"this of none": {Kind: impl.RwThis}, "this, bare type": {Kind: impl.RwThis, Allow: []impl.Allowed{{}}},
		"this, set alone":     {Kind: impl.RwThis, Allow: []impl.Allowed{{Set: "a"}}},
		"this, type this":     {Kind: impl.RwThis, Allow: []impl.Allowed{{Type: "this"}}},
		"this, set this":      {Kind: impl.RwThis, Allow: []impl.Allowed{{Type: "a", Set: "this"}}},
		"this, set A":         {Kind: impl.RwThis, Allow: []impl.Allowed{{Type: "a"}, {Type: "a", Set: "A"}}},
		"this, alike":         {Kind: impl.RwThis, Allow: []impl.Allowed{{Type: "a"}, {Type: "b"}, {Type: "a"}}},
		"this, alike sets":    {Kind: impl.RwThis, Allow: []impl.Allowed{{Type: "a", Set: "b"}, {Type: "a", Set: "b"}}},
		"this with over":      {Kind: impl.RwThis, Allow: one, Over: "a"},
		"this with name":      {Kind: impl.RwThis, Allow: one, Name: "a"},
		"this with kids":      {Kind: impl.RwThis, Allow: one, Kids: []int64{0}},
		"rel, no name":        {Kind: impl.RwRel},
		"rel this":            {Kind: impl.RwRel, Name: "this"},
		"rel of 13 signs":     {Kind: impl.RwRel, Name: "abcdefghijklm"},
		"rel with allow":      {Kind: impl.RwRel, Name: "a", Allow: one},
		"rel with over":       {Kind: impl.RwRel, Name: "a", Over: "b"},
		"rel with kids":       {Kind: impl.RwRel, Name: "a", Kids: []int64{0}},
		"over, no name":       {Kind: impl.RwOver, Over: "a"},
		"over, no over":       {Kind: impl.RwOver, Name: "a"},
		"over this":           {Kind: impl.RwOver, Over: "this", Name: "a"},
		"over, name this":     {Kind: impl.RwOver, Over: "a", Name: "this"},
		"over with allow":     {Kind: impl.RwOver, Over: "a", Name: "b", Allow: one},
		"over with kids":      {Kind: impl.RwOver, Over: "a", Name: "b", Kids: []int64{0}},
		"union without kids":  {Kind: impl.RwUnion},
		"both without kids":   {Kind: impl.RwBoth},
		"but without kids":    {Kind: impl.RwBut},
		"union of itself":     {Kind: impl.RwUnion, Kids: []int64{0, 0}},
		"but of places below": {Kind: impl.RwBut, Kids: []int64{-2, -1}},
	} {
		wantExpr(t, what, []impl.Expr{n}, false)
		wantExpr(t, what+", as a kid", union([]impl.Expr{n}, rel("a")), false)
	}
	for _, kind := range []int64{impl.RwUnion, impl.RwBoth, impl.RwBut} {
		for field, n := range map[string]impl.Expr{"allow": {Allow: one}, "over": {Over: "a"}, "name": {Name: "a"}} {
			n.Kind, n.Kids = kind, []int64{0, 1}
			wantExpr(t, "sides with "+field, []impl.Expr{rel("a")[0], rel("b")[0], n}, false)
		}
	}
}

// A leaf's kids may stand where a node's would: it must have none all the same.
func TestLeavesWithKids(t *testing.T) {
	for _, leaf := range [][]impl.Expr{this(user()), rel("a"), over("a", "b")} {
		one, two := copyExpr(leaf), copyExpr(leaf)
		one[0].Kids, two[0].Kids = []int64{0}, []int64{0, 1}
		wantExpr(t, "one kid", append(rel("a"), one...), false)
		wantExpr(t, "two kids", append(rel("a"), append(rel("b"), two...)...), false)
	}
}

func TestKindsOfNodes(t *testing.T) {
	if !same([]int64{1, 2, 3, 4, 5, 6}, []int64{impl.RwThis, impl.RwRel, impl.RwOver, impl.RwUnion, impl.RwBoth, impl.RwBut}) {
		t.Error("the numbers of the kinds")
	}
}

func TestHowManyKids(t *testing.T) {
	if impl.MaxKids != 5 {
		t.Fatal(impl.MaxKids)
	}
	for n := range 9 {
		kids := slices.Repeat([][]impl.Expr{rel("a")}, n)
		wantExpr(t, "union", node(impl.RwUnion, kids), n >= 2 && n <= impl.MaxKids)
		wantExpr(t, "both", node(impl.RwBoth, kids), n >= 2 && n <= impl.MaxKids)
		wantExpr(t, "but", node(impl.RwBut, kids), n == 2)
	}
}

func TestHowManyNodes(t *testing.T) {
	if impl.MaxExpr != 15 {
		t.Fatal(impl.MaxExpr)
	}
	wantExpr(t, "nil", nil, false)
	wantExpr(t, "none", []impl.Expr{}, false)
	e := rel("a")
	for len(e) < 40 {
		wantExpr(t, "to the left", e, len(e) <= impl.MaxExpr)
		e = union(e, rel("b"))
	}
	e = rel("a")
	for len(e) < 40 {
		wantExpr(t, "to the right", e, len(e) <= impl.MaxExpr)
		e = but(rel("b"), e)
	}
	three, two := both(rel("a"), rel("b"), rel("c")), but(rel("a"), rel("b"))
	wantExpr(t, "14 in all", union(three, three, two, rel("a"), rel("b")), true)
	wantExpr(t, "15 in all", union(three, three, two, two), true)
	wantExpr(t, "15 in all, five kids", union(three, three, three, rel("a"), rel("b")), true)
	wantExpr(t, "16 in all", union(three, three, three, two), false)
	wantExpr(t, "17 in all, five kids", union(three, three, two, two, both(rel("a"), rel("b"))), false)
}

func TestHowManyAreAllowed(t *testing.T) {
	for n := range 9 {
		var plain, sets []impl.Allowed
		for _, name := range names(n) {
			plain = append(plain, impl.Allowed{Type: name})
			sets = append(sets, impl.Allowed{Type: "a", Set: name})
		}
		wantExpr(t, "types", this(plain...), n >= 1 && n <= impl.MaxTypes)
		wantExpr(t, "sets", this(sets...), n >= 1 && n <= impl.MaxTypes)
	}
}

func TestOneThisAtMost(t *testing.T) {
	wantExpr(t, "two", union(this(user()), this(impl.Allowed{Type: "doc"})), false)
	wantExpr(t, "two far apart", but(union(this(user()), rel("a")), both(rel("b"), this(user()))), false)
	wantExpr(t, "one", but(union(this(user()), rel("a")), both(rel("b"), rel("c"))), true)
}

// Kinds and how many kids each node has fix where the kids stand: any other place is wrong.
func TestKidsStandInOnePlaceOnly(t *testing.T) {
	r := rand.New(rand.NewSource(1))
	for range 300 {
		e := randomTree(r, 1+r.Intn(8), func() []impl.Expr { return rel("a") })
		if len(e) > impl.MaxExpr {
			t.Fatal(len(e))
		}
		wantExpr(t, "a tree", e, true)
		for i, n := range e {
			for j, kid := range n.Kids {
				for other := int64(-1); other <= int64(len(e)); other++ {
					wrong := copyExpr(e)
					wrong[i].Kids[j] = other
					wantExpr(t, "another kid", wrong, other == kid)
				}
				wrong := copyExpr(e)
				wrong[i].Kids[j] = kid + 1<<32
				wantExpr(t, "a kid far out", wrong, false)
			}
			wrong := copyExpr(e)
			slices.Reverse(wrong[i].Kids)
			wantExpr(t, "kids the other way round", wrong, len(n.Kids) == 0)
		}
		wantExpr(t, "a node that is nobody's", append(rel("a"), e...), false)
		wantExpr(t, "a node behind the whole", append(copyExpr(e), rel("a")...), false)
		wantExpr(t, "without the whole", e[:len(e)-1], false)
	}
}

func TestKidsOutOfOrder(t *testing.T) {
	a, b := rel("a")[0], rel("b")[0]
	op := func(kids ...int64) impl.Expr { return impl.Expr{Kind: impl.RwUnion, Kids: kids} }
	wantExpr(t, "in order", []impl.Expr{a, b, op(0, 1)}, true)
	wantExpr(t, "in order, of two", []impl.Expr{a, b, op(0, 1), a, b, op(3, 4), op(2, 5)}, true)
	for what, e := range map[string][]impl.Expr{
		"turned":             {a, b, op(1, 0)},
		"one twice":          {a, b, op(1, 1)},
		"the whole first":    {op(1, 2), a, b},
		"the whole between":  {a, op(0, 2), b},
		"kids of kids last":  {a, op(3, 4), b, a, b, op(1, 2)},
		"all leaves first":   {a, b, a, b, op(0, 1), op(2, 3), op(4, 5)},
		"a shared kid":       {a, b, op(0, 1), op(0, 2)},
		"a gap":              {a, b, a, op(0, 2)},
		"first is another's": {a, a, b, op(1, 2)},
		"two wholes":         {a, b, op(0, 1), a, b, op(3, 4)},
	} {
		wantExpr(t, what, e, false)
	}
}

// Nodes made of odd numbers and names: each is answered, and what is taken for right has its kids behind each other.
func TestOddExpressionsAreAnswered(t *testing.T) {
	r := rand.New(rand.NewSource(4))
	numbers := []int64{-1 << 63, -1, 0, 1, 2, 3, 4, 5, 6, 7, 15, 16, 1 << 32, 1<<63 - 1}
	words := []string{"", "a", "this", "A"}
	for range 50000 {
		var e []impl.Expr
		for range r.Intn(20) {
			n := impl.Expr{Kind: numbers[r.Intn(len(numbers))], Over: words[r.Intn(4)], Name: words[r.Intn(4)]}
			for range r.Intn(4) {
				n.Kids = append(n.Kids, numbers[r.Intn(len(numbers))])
			}
			for range r.Intn(2) {
				n.Allow = append(n.Allow, impl.Allowed{Type: words[r.Intn(4)], Set: words[r.Intn(4)]})
			}
			e = append(e, n)
		}
		if impl.ExprOk(e) && len(e) > 1 && e[len(e)-1].Kids[len(e[len(e)-1].Kids)-1] != int64(len(e))-2 {
			t.Fatal(e)
		}
		s := onDocs(relation("a", e), relation("b", rel("a")))
		if impl.SchemaOk(s) != (impl.StratumOf(s, "doc", "b") >= 0) {
			t.Fatal(e)
		}
	}
}

func TestHowManyTypesAndRelations(t *testing.T) {
	if impl.MaxTypes != 6 || impl.MaxRels != 6 {
		t.Fatal(impl.MaxTypes, impl.MaxRels)
	}
	for n := range 10 {
		var bare, full []impl.Type
		var rels []impl.Relation
		for _, name := range names(n) {
			rels = append(rels, relation(name, this(user())))
		}
		for _, name := range names(n) {
			bare = append(bare, typ(name))
			full = append(full, typ(name, relation("a", this(impl.Allowed{Type: "na"}))))
		}
		wantSchema(t, "types", bare, n <= impl.MaxTypes)
		wantSchema(t, "types with relations", full, n <= impl.MaxTypes)
		wantSchema(t, "relations", onDocs(rels...), n <= impl.MaxRels)
	}
	wantSchema(t, "nil", nil, true)
	wantSchema(t, "none", []impl.Type{}, true)
}

func TestTypesAndRelationsRise(t *testing.T) {
	a, b := relation("a", this(user())), relation("b", this(user()))
	wantSchema(t, "rising", []impl.Type{typ("doc", a, b), typ("user", a)}, true)
	wantSchema(t, "a type is named like a relation", onDocs(relation("doc", this(user())), relation("user", this(user()))), true)
	wantSchema(t, "a beginning comes ahead", []impl.Type{typ("a"), typ("aa"), typ("b")}, true)
	for what, s := range map[string][]impl.Type{
		"types fall":        {typ("user"), typ("doc", a, b)},
		"types alike":       {typ("doc", a), typ("doc", b), typ("user")},
		"types alike, bare": {typ("a"), typ("b"), typ("b")},
		"relations fall":    onDocs(b, a),
		"relations alike":   onDocs(a, a),
		"type this":         {typ("this"), typ("user")},
		"type without name": {typ(""), typ("user")},
		"type of 13 signs":  {typ("abcdefghijklm"), typ("user")},
		"relation this":     onDocs(relation("this", this(user()))),
		"relation no name":  onDocs(relation("", this(user()))),
		"relation of 13":    onDocs(relation("abcdefghijklm", this(user()))),
		"relation no expr":  onDocs(relation("a", nil)),
		"relation wrong":    onDocs(a, relation("b", append(rel("a"), rel("a")...))),
	} {
		wantSchema(t, what, s, false)
	}
}

func TestNamesThatASchemaLacks(t *testing.T) {
	member := relation("member", this(user()))
	group := func(a impl.Allowed) []impl.Type {
		return []impl.Type{typ("doc", relation("viewer", this(a))), typ("group", member), typ("user")}
	}
	wantSchema(t, "type", group(impl.Allowed{Type: "group"}), true)
	wantSchema(t, "set", group(impl.Allowed{Type: "group", Set: "member"}), true)
	wantSchema(t, "no such type", group(impl.Allowed{Type: "team"}), false)
	wantSchema(t, "no such type with a set", group(impl.Allowed{Type: "team", Set: "member"}), false)
	wantSchema(t, "no such set", group(impl.Allowed{Type: "group", Set: "owner"}), false)
	wantSchema(t, "set of another type", group(impl.Allowed{Type: "group", Set: "viewer"}), false)
	wantSchema(t, "set of a bare type", group(impl.Allowed{Type: "user", Set: "member"}), false)
	wantSchema(t, "the last of Allow", []impl.Type{typ("doc", relation("viewer", this(impl.Allowed{Type: "doc"}, user(), impl.Allowed{Type: "team"}))), typ("user")}, false)
	wantSchema(t, "rel", onDocs(relation("a", this(user())), relation("b", rel("a"))), true)
	wantSchema(t, "no such rel", onDocs(relation("a", this(user())), relation("b", rel("c"))), false)
	wantSchema(t, "rel of another type", []impl.Type{typ("doc", relation("a", rel("member"))), typ("group", member), typ("user")}, false)
	wantSchema(t, "rel named like a type", onDocs(relation("a", rel("user"))), false)
	wantSchema(t, "no such rel far below", onDocs(relation("a", this(user())), relation("b", union(rel("a"), but(rel("a"), both(rel("a"), rel("c")))))), false)
}

// goals is a schema whose doc's viewer goes over its parent, which allows these types; folder and team have a viewer, user has none.
func goals(by []impl.Expr, name string) []impl.Type {
	viewer := relation("viewer", this(user()))
	return []impl.Type{
		typ("doc", relation("parent", by), relation("sees", over("parent", name))),
		typ("folder", viewer), typ("team", viewer), typ("user"),
	}
}

func TestGoals(t *testing.T) {
	folder, team := impl.Allowed{Type: "folder"}, impl.Allowed{Type: "team"}
	wantSchema(t, "all", goals(this(folder, team), "viewer"), true)
	wantSchema(t, "one", goals(this(folder), "viewer"), true)
	wantSchema(t, "some, the last", goals(this(user(), team), "viewer"), true)
	wantSchema(t, "some, the first", goals(this(folder, user()), "viewer"), true)
	wantSchema(t, "none has it", goals(this(user()), "viewer"), false)
	wantSchema(t, "none has that name", goals(this(folder, team), "owner"), false)
	wantSchema(t, "only doc has it", goals(this(folder, team), "parent"), false)
	wantSchema(t, "doc is allowed", goals(this(impl.Allowed{Type: "doc"}), "parent"), true)
	wantSchema(t, "over with a set", goals(this(folder, impl.Allowed{Type: "team", Set: "viewer"}), "viewer"), false)
	wantSchema(t, "over sides", goals(union(this(folder), rel("parent")), "viewer"), false)
	wantSchema(t, "over a rel", goals(rel("sees"), "viewer"), false)
	s := goals(this(folder), "viewer")
	s[0].Rels[1].Expr = over("owner", "viewer")
	wantSchema(t, "over none", s, false)
	s[0].Rels[1].Expr = over("viewer", "viewer")
	wantSchema(t, "over a relation of another type", s, false)
}

func TestGoalsAloneAreLeanedOn(t *testing.T) {
	a, b := relation("a", this(user())), relation("b", but(this(user()), rel("a")))
	up := func(list ...impl.Allowed) []impl.Type {
		return []impl.Type{
			typ("doc", relation("parent", this(list...)), relation("sees", over("parent", "b"))),
			typ("folder", a, b), typ("team", relation("b", this(user()))), typ("user"),
		}
	}
	wantStratum(t, up(impl.Allowed{Type: "folder"}), "doc", "sees", 1)
	wantStratum(t, up(impl.Allowed{Type: "team"}), "doc", "sees", 0)
	wantStratum(t, up(user(), impl.Allowed{Type: "team"}), "doc", "sees", 0)
	wantStratum(t, up(impl.Allowed{Type: "team"}, user(), impl.Allowed{Type: "folder"}), "doc", "sees", 1)
	wantStratum(t, up(impl.Allowed{Type: "folder"}), "doc", "parent", 0)
}

func TestRelationsThatNameThemselves(t *testing.T) {
	doc := impl.Allowed{Type: "doc"}
	parent := relation("parent", this(doc))
	for what, e := range map[string][]impl.Expr{
		"rel":              rel("viewer"),
		"rel with this":    union(this(user()), rel("viewer")),
		"set":              this(user(), impl.Allowed{Type: "doc", Set: "viewer"}),
		"over":             union(this(user()), over("parent", "viewer")),
		"both":             both(this(user()), rel("viewer")),
		"first kid of but": but(rel("viewer"), this(user())),
	} {
		s := onDocs(parent, relation("viewer", e))
		wantSchema(t, what, s, true)
		wantStratum(t, s, "doc", "viewer", 0)
	}
	for what, e := range map[string][]impl.Expr{
		"rel":                                  but(this(user()), rel("viewer")),
		"set":                                  but(rel("parent"), this(impl.Allowed{Type: "doc", Set: "viewer"})),
		"over":                                 but(this(user()), over("parent", "viewer")),
		"far below":                            but(this(user()), union(rel("parent"), both(rel("parent"), rel("viewer")))),
		"from what was taken away, taken away": but(this(user()), but(rel("parent"), rel("viewer"))),
		"first of the second":                  but(this(user()), but(rel("viewer"), rel("parent"))),
		"below the first kid":                  but(but(this(user()), rel("viewer")), rel("parent")),
	} {
		s := onDocs(parent, relation("viewer", e))
		wantSchema(t, "taken away: "+what, s, false)
		wantStratum(t, s, "doc", "viewer", -1)
		wantStratum(t, s, "doc", "parent", -1)
	}
}

func TestCircles(t *testing.T) {
	a := relation("a", union(this(user()), rel("b")))
	b := relation("b", union(this(user()), rel("c")))
	c := relation("c", union(this(user()), rel("a")))
	s := onDocs(a, b, c, relation("d", but(rel("b"), rel("c"))))
	for i, want := range []int64{0, 0, 0, 1} {
		wantStratum(t, s, "doc", s[0].Rels[i].Name, want)
	}
	// A circle stands as high as the highest that one of it must.
	s = onDocs(a, b, relation("c", but(union(this(user()), rel("a")), rel("d"))), relation("d", this(user())))
	for i, want := range []int64{1, 1, 1, 0} {
		wantStratum(t, s, "doc", s[0].Rels[i].Name, want)
	}
	wantSchema(t, "a circle that takes away", onDocs(a, b, relation("c", but(this(user()), rel("a")))), false)
	over := []impl.Type{
		typ("doc", relation("a", this(impl.Allowed{Type: "group", Set: "m"}))),
		typ("group", relation("k", this(impl.Allowed{Type: "doc"})), relation("m", but(this(user()), []impl.Expr{{Kind: impl.RwOver, Over: "k", Name: "a"}}))),
		typ("user"),
	}
	wantSchema(t, "a circle that takes away over types", over, false)
}

func TestStrataOfALadder(t *testing.T) {
	rels := []impl.Relation{relation("a", this(user()))}
	for _, name := range []string{"b", "c", "d", "e", "f"} {
		rels = append(rels, relation(name, but(rel("a"), rel(rels[len(rels)-1].Name))))
	}
	for i, r := range rels {
		wantStratum(t, onDocs(rels...), "doc", r.Name, int64(i))
	}
	// Every relation there may be, each above the one ahead of it.
	var s []impl.Type
	for i, name := range names(impl.MaxTypes) {
		var list []impl.Relation
		for j, r := range names(impl.MaxRels) {
			e := this(impl.Allowed{Type: "na"})
			if j > 0 {
				e = but(rel("na"), rel(names(j)[j-1]))
			} else if i > 0 {
				e = but(rel("na"), this(impl.Allowed{Type: names(i)[i-1], Set: "nf"}))
			}
			list = append(list, relation(r, e))
		}
		s = append(s, typ(name, list...))
	}
	wantStratum(t, s, "na", "nf", 5)
	wantStratum(t, s, "nf", "na", 30)
	wantStratum(t, s, "nf", "nf", 35)
}

func TestTakenAwayWithoutARelation(t *testing.T) {
	s := onDocs(relation("a", but(rel("a"), this(user()))))
	wantStratum(t, s, "doc", "a", 0)
	s = onDocs(relation("a", this(user())), relation("b", but(rel("a"), this(user(), impl.Allowed{Type: "doc", Set: "a"}))))
	wantStratum(t, s, "doc", "b", 1)
	s = onDocs(relation("a", this(user())), relation("b", but(this(user()), but(rel("b"), rel("a")))))
	wantSchema(t, "both kids of the second kid are taken away", s, false)
	s = onDocs(relation("a", this(user())), relation("b", but(rel("a"), but(this(user()), rel("a")))))
	wantStratum(t, s, "doc", "b", 1)
}

func TestNoStratum(t *testing.T) {
	s := onDocs(relation("a", this(user())))
	wantStratum(t, s, "doc", "a", 0)
	for _, key := range [][2]string{{"doc", "b"}, {"doc", ""}, {"user", "a"}, {"team", "a"}, {"", ""}, {"", "a"}, {"a", "doc"}} {
		wantStratum(t, s, key[0], key[1], -1)
	}
	wantStratum(t, nil, "doc", "a", -1)
	wantStratum(t, s[:1], "doc", "a", -1)
}

func TestRelOf(t *testing.T) {
	viewer := but(union(this(user(), impl.Allowed{Type: "doc", Set: "owner"}), over("parent", "owner")), rel("owner"))
	s := onDocs(relation("owner", this(user())), relation("parent", this(impl.Allowed{Type: "doc"})), relation("viewer", viewer))
	if e, ok := impl.RelOf(s, "doc", "viewer"); !ok || !same(e, viewer) {
		t.Error(e, ok)
	}
	if e, ok := impl.RelOf(s, "doc", "owner"); !ok || !same(e, this(user())) {
		t.Error(e, ok)
	}
	for _, key := range [][2]string{{"doc", "b"}, {"doc", ""}, {"user", "owner"}, {"team", "owner"}, {"", ""}} {
		if e, ok := impl.RelOf(s, key[0], key[1]); ok || e != nil {
			t.Error(key, e, ok)
		}
	}
	s[0].Rels[0].Expr = rel("viewer")
	if e, ok := impl.RelOf(s, "doc", "parent"); ok || e != nil {
		t.Error("a relation of a schema that is not right", e)
	}
}

func TestFits(t *testing.T) {
	member := impl.Allowed{Type: "group", Set: "member"}
	s := []impl.Type{
		typ("doc",
			relation("banned", this(user())),
			relation("owner", rel("viewer")),
			relation("part", this(impl.Allowed{Type: "group"})),
			relation("viewer", but(rel("banned"), union(rel("banned"), this(user(), member))))),
		typ("group", relation("member", this(user(), member)), relation("owner", this(user()))),
		typ("user"),
	}
	for text, want := range map[string]bool{
		"doc:a#viewer@user:x": true, "doc:a#viewer@group:x#member": true, "doc:a#part@group:x": true,
		"group:a#member@group:a#member": true, "group:a#owner@user:x": true,
		"doc:a#viewer@group:x": false, "doc:a#viewer@group:x#owner": false, "doc:a#viewer@user:x#member": false,
		"doc:a#viewer@doc:x": false, "doc:a#owner@user:x": false, "doc:a#part@group:x#member": false,
		"doc:a#part@user:x": false, "doc:a#member@user:x": false, "user:a#owner@user:x": false,
		"team:a#owner@user:x": false, "doc:a#none@user:x": false, "doc:a#viewer@team:x": false,
	} {
		u := tupleOf(t, text)
		if impl.Fits(s, u) != want {
			t.Errorf("%s: Fits is not %v", text, want)
		}
		if impl.Fits(nil, u) || impl.Fits(s[:2], u) {
			t.Errorf("%s fits where the schema is not right or empty", text)
		}
	}
	u := tupleOf(t, "doc:a#viewer@user:x")
	for _, wrong := range wrongTuples(tupleOf(t, "doc:a#viewer@group:x#member")) {
		if impl.Fits(s, wrong) {
			t.Errorf("%v fits", wrong)
		}
	}
	u.Subject.Id = "X"
	if impl.Fits(s, u) {
		t.Error("a tuple with a wrong id fits")
	}
}
