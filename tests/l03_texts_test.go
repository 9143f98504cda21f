package tests

import (
	"slices"
	"strings"
	"testing"

	"loop.example/g00297/impl"
)

// wantText asks that the expression and the text are each other's.
func wantText(t *testing.T, e []impl.Expr, text string) {
	t.Helper()
	if got := impl.ExprText(e); got != text {
		t.Errorf("the text is %q, not %q", got, text)
	}
	if got, ok := impl.ReadExpr(text); !ok || !same(got, e) {
		t.Errorf("%q was read as %v, %v", text, got, ok)
	}
}

func refuseExpr(t *testing.T, text string) {
	t.Helper()
	if e, ok := impl.ReadExpr(text); ok || e != nil {
		t.Errorf("%q was read as %v, %v", text, e, ok)
	}
}

func refuseSchema(t *testing.T, text string) {
	t.Helper()
	if s, ok := impl.ReadSchema(text); ok || s != nil {
		t.Errorf("%q was read as %v, %v", text, s, ok)
	}
}

func wantSchemaText(t *testing.T, s []impl.Type, text string) {
	t.Helper()
	if got := impl.SchemaText(s); got != text {
		t.Errorf("the text is %q, not %q", got, text)
	}
	if got, ok := impl.ReadSchema(text); !ok || !same(got, s) {
		t.Errorf("%q was read as %v, %v", text, got, ok)
	}
}

func TestTextsOfLeaves(t *testing.T) {
	group := impl.Allowed{Type: "group", Set: "member"}
	wantText(t, this(user()), "this(user)")
	wantText(t, this(group), "this(group#member)")
	wantText(t, this(user(), group), "this(user,group#member)")
	wantText(t, this(group, user()), "this(group#member,user)")
	wantText(t, this(impl.Allowed{Type: "a", Set: "a"}, impl.Allowed{Type: "a"}, impl.Allowed{Type: "a", Set: "b"}), "this(a#a,a,a#b)")
	wantText(t, rel("a"), "a")
	wantText(t, rel("type"), "type")
	wantText(t, rel("thi"), "thi")
	wantText(t, rel("thisa"), "thisa")
	wantText(t, rel("abcdefghijkl"), "abcdefghijkl")
	wantText(t, over("parent", "viewer"), "parent->viewer")
	wantText(t, over("a", "a"), "a->a")
	wantText(t, over("thist", "athis"), "thist->athis")
}

func TestTextsOfSides(t *testing.T) {
	a, b, c, d := rel("a"), rel("b"), rel("c"), rel("d")
	wantText(t, union(a, b), "a | b")
	wantText(t, both(a, b), "a & b")
	wantText(t, but(a, b), "a - b")
	wantText(t, union(a, b, c), "a | b | c")
	wantText(t, both(a, b, c), "a & b & c")
	wantText(t, union(a, a), "a | a")
	wantText(t, union(this(user()), over("up", "a")), "this(user) | up->a")
	wantText(t, but(over("up", "a"), this(user())), "up->a - this(user)")
	// Parentheses stand around each but the whole, the same sign within and without too.
	for what, kid := range map[string][]impl.Expr{"a | b": union(a, b), "a & b": both(a, b), "a - b": but(a, b)} {
		for _, sign := range []string{"|", "&", "-"} {
			of := map[string]func(...[]impl.Expr) []impl.Expr{"|": union, "&": both, "-": func(kids ...[]impl.Expr) []impl.Expr { return but(kids[0], kids[1]) }}[sign]
			wantText(t, of(kid, c), "("+what+") "+sign+" c")
			wantText(t, of(c, kid), "c "+sign+" ("+what+")")
			wantText(t, of(kid, kid), "("+what+") "+sign+" ("+what+")")
		}
	}
	wantText(t, but(union(both(a, b), c), d), "((a & b) | c) - d")
	wantText(t, but(d, union(c, both(b, a))), "d - (c | (b & a))")
	wantText(t, union(a, both(b, but(c, d))), "a | (b & (c - d))")
	wantText(t, union(but(a, b), both(c, d), a), "(a - b) | (c & d) | a")
	wantText(t, but(union(this(user(), impl.Allowed{Type: "group", Set: "member"}), rel("editor"), over("parent", "viewer")), rel("banned")),
		"(this(user,group#member) | editor | parent->viewer) - banned")
}

func TestWrongExpressionsHaveNoText(t *testing.T) {
	one := []impl.Allowed{user()}
	for what, e := range map[string][]impl.Expr{
		"nil": nil, "none": {}, "kind 0": {{Name: "a"}}, "kind 7": {{Kind: 7, Name: "a"}},
		"this of none": {{Kind: impl.RwThis}}, "this twice": union(this(user()), this(impl.Allowed{Type: "doc"})),
		"this, alike": this(user(), user()), "this, wrong set": this(impl.Allowed{Type: "a", Set: "A"}), "this of this": this(impl.Allowed{Type: "this"}),
		"this of seven": this(impl.Allowed{Type: "a"}, impl.Allowed{Type: "b"}, impl.Allowed{Type: "c"}, impl.Allowed{Type: "d"}, impl.Allowed{Type: "e"}, impl.Allowed{Type: "f"}, impl.Allowed{Type: "g"}),
		"rel this":      rel("this"), "rel of none": rel(""), "rel with a blank": rel("a b"), "rel of 13 signs": rel("abcdefghijklm"),
		"rel with allow": {{Kind: impl.RwRel, Name: "a", Allow: one}}, "rel with over": {{Kind: impl.RwRel, Name: "a", Over: "b"}},
		"over of none": over("", "a"), "over to none": over("a", ""), "over this": over("this", "a"), "over to this": over("a", "this"),
		"but of three": node(impl.RwBut, [][]impl.Expr{rel("a"), rel("b"), rel("c")}),
		"union of one": node(impl.RwUnion, [][]impl.Expr{rel("a")}), "union of none": {{Kind: impl.RwUnion}},
		"kids turned": {rel("a")[0], rel("b")[0], {Kind: impl.RwUnion, Kids: []int64{1, 0}}},
		"two wholes":  append(rel("a"), rel("b")...), "a kid that is none": {rel("a")[0], {Kind: impl.RwUnion, Kids: []int64{0, 7}}},
	} {
		if text := impl.ExprText(e); text != "" {
			t.Errorf("%s: the text is %q", what, text)
		}
		if text := impl.SchemaText(onDocs(relation("a", e), relation("b", this(user())))); text != "" {
			t.Errorf("%s: the schema's text is %q", what, text)
		}
	}
}

func TestTextsThatAreNoExpressions(t *testing.T) {
	for _, text := range []string{
		"", " ", "  ", "\n", "\x00", "(", ")", "()", "|", " | ", "&", "-", "->", ",", "#",
		"this", "this(", "this()", "this)", "this( )", "this(user", "thisuser)", "this user", "this (user)", "this(user))", "this((user))", "(this(user))",
		"this(user,)", "this(,user)", "this(,)", "this(user,,doc)", "this(user, doc)", "this(user ,doc)", "this( user)", "this(user )", "this(user;doc)", "this(user|doc)",
		"this(user#)", "this(#a)", "this(#)", "this(user#a#b)", "this(user##a)", "this(user #a)", "this(user# a)", "this(user#1)", "this(user:a)", "this(this)", "this(user#this)", "this(User)",
		"this(user,user)", "this(user#a,doc,user#a)", "this(a,b,c,d,e,f,g)", "this(user)this(user)", "this(user)a", "athis(user)", "This(user)", "this[user]",
		"A", "a1", "a_", "1", "é", "abcdefghijklm", "a b", "a,b", "a#b", "a.b", " a", "a ", "a\n", "\na", "a\x00", "a\t",
		"a->", "->a", "a->b->c", "a ->b", "a-> b", "a -> b", "a>b", "a-b", "a- >b", "a->(b)", "(a)->b", "this->a", "a->this", "this(user)->a", "a->this(user)", "a->b c", "a-->b", "a->abcdefghijklm", "abcdefghijklm->a",
		"a|b", "a |b", "a| b", "a  | b", "a |  b", "a\t| b", "a |\tb", " a | b", "a | b ", "a | b\n", "a || b", "a | | b", "a | b |", "a | b | ", "| a | b", " | a", "a | ", "a |", "a&b", "a && b", "a & ", "a - ", "a -", "- a", "a -- b", "a + b", "a b | c",
		"a | b & c", "a & b | c", "a | b - c", "a - b | c", "a & b - c", "a - b & c", "a | b | c & d", "a & b & c | d", "(a | b) | c & d", "a | (b & c) - d", "a | (b & c - d)", "(a | b & c) - d",
		"a - b - c", "(a - b - c) | d", "d | (a - b - c)", "(a - b) - c - d",
		"(a)", "((a))", "(a) | b", "a | (b)", "a | ((b | c))", "((b | c)) | a", "(a | b)", "((a | b))", "((a | b) | c)", "(this(user)) | a", "a | (b->c)", "(a", "a)", "(a | b", "a | b)", "(a | b) |", "(a | b) | c)", "((a | b) | c", "a | (b | c", "a | b | c)", "a | (b | c))", "a | ()", "() | a", "a | (b |)", "a | (| b)",
		"( a | b) | c", "(a | b ) | c", "(a | b)| c", "(a | b) |c", "(a | b)c", "a(b | c)", "(a | b) (c | d)", "(a | b)(c | d)", "a | (b | c)d", "a | b(c)",
		"this(a) | this(b)", "this(a) - this(a)", "(this(a) | b) & (c - this(d))",
		"a | b | c | d | e | f", "a & b & c & d & e & f", "(a | b | c | d | e | f) - g", "g & (a & b & c & d & e & f)",
	} {
		refuseExpr(t, text)
		refuseSchema(t, "type t\nx = "+text+"\n")
	}
}

func TestTextsOfHowManyKids(t *testing.T) {
	for n := 2; n <= 9; n++ {
		list := names(n)
		var kids [][]impl.Expr
		for _, name := range list {
			kids = append(kids, rel(name))
		}
		for sign, e := range map[string][]impl.Expr{" | ": node(impl.RwUnion, kids), " & ": node(impl.RwBoth, kids), " - ": node(impl.RwBut, kids)} {
			text := strings.Join(list, sign)
			if n <= impl.MaxKids && sign != " - " || n == 2 {
				wantText(t, e, text)
				wantText(t, both(rel("z"), e), "z & ("+text+")")
				continue
			}
			refuseExpr(t, text)
			refuseExpr(t, "z & ("+text+")")
			if impl.ExprText(e) != "" || impl.ExprText(both(rel("z"), e)) != "" {
				t.Errorf("%d kids have a text with %q", n, sign)
			}
		}
	}
}

func TestTextsOfHowManyNodes(t *testing.T) {
	e, text := but(rel("a"), rel("b")), "a - b"
	for len(e) < 40 {
		if len(e) <= impl.MaxExpr {
			wantText(t, e, text)
		} else {
			refuseExpr(t, text)
			if impl.ExprText(e) != "" {
				t.Errorf("%d nodes have a text", len(e))
			}
		}
		e, text = union(e, rel("c")), "("+text+") | c"
	}
	five := union(rel("a"), rel("b"), rel("c"), rel("d"), rel("e"))
	wantText(t, both(five, five, rel("f"), rel("g")), "(a | b | c | d | e) & (a | b | c | d | e) & f & g")
	refuseExpr(t, "(a | b | c | d | e) & (a | b | c | d | e) & f & g & h")
	if text := impl.ExprText(both(five, five, rel("f"), rel("g"), rel("h"))); text != "" {
		t.Errorf("16 nodes have the text %q", text)
	}
}

// greatExpr has as long a text as a right expression can have: as many leaves as fit, each as long as it may be.
func greatExpr() []impl.Expr {
	n := "abcdefghijk"
	var allow []impl.Allowed
	for _, last := range []string{"a", "b", "c", "d", "e", "m"} {
		allow = append(allow, impl.Allowed{Type: n + "l", Set: n + last})
	}
	leaf := over(n+"m", n+"a")
	five := union(leaf, leaf, leaf, leaf, leaf)
	return both(five, five, this(allow...), leaf)
}

func greatSchema() []impl.Type {
	n := "abcdefghijk"
	var s []impl.Type
	for _, last := range []string{"l", "m", "n", "o", "p", "q"} {
		var rels []impl.Relation
		for _, end := range []string{"a", "b", "c", "d", "e"} {
			rels = append(rels, relation(n+end, greatExpr()))
		}
		rels = append(rels, relation(n+"m", this(impl.Allowed{Type: n + "l"})))
		s = append(s, typ(n+last, rels...))
	}
	return s
}

// The longest text there is stays far below the limits: one that comes near them is none of a right thing.
func TestLongTexts(t *testing.T) {
	e, s := greatExpr(), greatSchema()
	text, lines := impl.ExprText(e), impl.SchemaText(s)
	wantText(t, e, text)
	wantSchemaText(t, s, lines)
	if len(text) != 484 || len(lines) < 15000 || strings.Count(lines, text) != 30 {
		t.Error(len(text), len(lines))
	}
	for _, n := range []int{999, 1000, 1001, 1002, 100000} {
		refuseExpr(t, text+strings.Repeat(" ", n-len(text)))
		refuseExpr(t, strings.Repeat("a", n))
		refuseExpr(t, "this("+strings.Repeat("a", n-6)+")")
		refuseExpr(t, strings.Repeat("(", n))
		refuseExpr(t, strings.Repeat("(", n/2-3)+"a | b"+strings.Repeat(")", n/2-3))
		refuseExpr(t, "a"+strings.Repeat(" | a", n/4))
		refuseExpr(t, strings.Repeat("(a | ", n/6)+"a"+strings.Repeat(")", n/6))
		refuseExpr(t, "this(a"+strings.Repeat(",a#b", n/4)+")")
	}
	for _, n := range []int{49999, 50000, 50001, 50002, 1000000} {
		refuseSchema(t, lines+strings.Repeat(" ", n-len(lines)))
		refuseSchema(t, lines+strings.Repeat("\n", n-len(lines)))
		refuseSchema(t, lines+strings.Repeat("zzzz = this(abcdefghijkl)\n", n/26))
		refuseSchema(t, strings.Repeat("type a\n", n/7))
		refuseSchema(t, "type "+strings.Repeat("a", n-6)+"\n")
		refuseSchema(t, "type a\nb = "+strings.Repeat("(", n-12)+"\n")
		refuseSchema(t, "type a\nb = "+strings.Repeat("a", n-12)+"\n")
	}
}

func TestTextsOfSchemas(t *testing.T) {
	wantSchemaText(t, nil, "")
	if text := impl.SchemaText([]impl.Type{}); text != "" {
		t.Errorf("no types have the text %q", text)
	}
	wantSchemaText(t, []impl.Type{typ("a")}, "type a\n")
	wantSchemaText(t, []impl.Type{typ("a"), typ("b")}, "type a\ntype b\n")
	wantSchemaText(t, []impl.Type{typ("a", relation("b", this(impl.Allowed{Type: "a"})))}, "type a\nb = this(a)\n")
	wantSchemaText(t, onDocs(relation("a", this(user())), relation("b", but(rel("a"), over("c", "a"))), relation("c", this(impl.Allowed{Type: "doc"}))),
		"type doc\na = this(user)\nb = a - c->a\nc = this(doc)\ntype user\n")
	// Bare types may stand ahead, between and behind.
	wantSchemaText(t, []impl.Type{typ("a"), typ("b", relation("x", this(user()))), typ("c"), typ("d", relation("x", this(impl.Allowed{Type: "b", Set: "x"}))), typ("user")},
		"type a\ntype b\nx = this(user)\ntype c\ntype d\nx = this(b#x)\ntype user\n")
	// A relation and a type may be named type.
	named := this(impl.Allowed{Type: "type"})
	wantSchemaText(t, []impl.Type{typ("type", relation("type", named), relation("user", rel("type")))}, "type type\ntype = this(type)\nuser = type\n")
	// What goes round is right where nothing is taken away.
	wantSchemaText(t, onDocs(relation("a", rel("b")), relation("b", rel("a"))), "type doc\na = b\nb = a\ntype user\n")
}

func TestTextsOfHowManyTypesAndRelations(t *testing.T) {
	for n := range 10 {
		var bare []impl.Type
		var rels []impl.Relation
		types, lines := "", "type doc\n"
		for _, name := range names(n) {
			bare = append(bare, typ(name))
			rels = append(rels, relation(name, this(user())))
			types += "type " + name + "\n"
			lines += name + " = this(user)\n"
		}
		lines += "type user\n"
		if n <= impl.MaxTypes {
			wantSchemaText(t, bare, types)
		} else {
			refuseSchema(t, types)
		}
		if n <= impl.MaxRels {
			wantSchemaText(t, onDocs(rels...), lines)
		} else {
			refuseSchema(t, lines)
		}
		if n > 6 && impl.SchemaText(bare)+impl.SchemaText(onDocs(rels...)) != "" {
			t.Errorf("%d types or relations have a text", n)
		}
	}
}

func TestWrongSchemasHaveNoText(t *testing.T) {
	a := relation("a", this(user()))
	for what, s := range map[string][]impl.Type{
		"types fall": {typ("user"), typ("doc", a)}, "types alike": {typ("a"), typ("a")}, "relations fall": onDocs(relation("b", rel("a")), a), "relations alike": onDocs(a, a),
		"type this": {typ("this")}, "type of none": {typ("")}, "type with a line": {typ("a\ntype b")}, "relation of none": onDocs(relation("", this(user()))), "relation this": onDocs(relation("this", this(user()))),
		"no such type": {typ("doc", a)}, "no such set": onDocs(relation("a", this(impl.Allowed{Type: "user", Set: "a"}))), "no such relation": onDocs(a, relation("b", rel("c"))),
		"over none": onDocs(a, relation("b", over("c", "a"))), "over without a goal": onDocs(a, relation("b", over("a", "a"))),
		"no expression": onDocs(relation("a", nil)), "no strata": onDocs(relation("a", but(this(user()), rel("a")))),
	} {
		if text := impl.SchemaText(s); text != "" {
			t.Errorf("%s: the text is %q", what, text)
		}
	}
}

func TestTextsThatAreNoSchemas(t *testing.T) {
	for _, text := range []string{
		"\n", " ", "\n\n", " \n", "type a", "type a\ntype b", "type a\nb = this(a)", "\ntype a\n", "type a\n\n", "type a\n\ntype b\n", "type a\n\nb = this(a)\n", "type a\n ", "type a\n \n",
		"type\n", "type \n", "type  a\n", " type a\n", "type a \n", "type\ta\n", "typea\n", "Type a\n", "types a\n", "type A\n", "type this\n", "type a b\n", "type abcdefghijklm\n", "type a\r\n", "type a\x00\n", "a\n", "type a;", "type a\n;", "type a:\n", "type a\ntype\n",
		"a = b\n", "b = this(a)\ntype a\n", "type a\nb\n", "type a\nb =\n", "type a\nb = \n", "type a\n = this(a)\n", "type a\n= this(a)\n", "type a\nb this(a)\n", "type a\nb=this(a)\n", "type a\nb= this(a)\n", "type a\nb =this(a)\n", "type a\nb  = this(a)\n", "type a\nb =  this(a)\n", "type a\n b = this(a)\n", "type a\nb = this(a) \n", "type a\nb == this(a)\n", "type a\nb = = this(a)\n", "type a\nb = c = this(a)\n", "type a\nb = this(a) = c\n", "type a\nb: this(a)\n", "type a\nthis = this(a)\n", "type a\nB = this(a)\n", "type a\nb,c = this(a)\n", "type a\nabcdefghijklm = this(a)\n", "type a b = this(a)\n", "type a = this(a)\n", "type a\ntype b = this(a)\n", "type type = this(type)\n",
		"type a\nb = this(a)\n\nc = this(a)\n", "type a\nb = this(a)\r\nc = this(a)\n", "type a\nb = this(a);c = this(a)\n", "type a\nb = this(a)\nb = this(a)\n", "type a\nc = this(a)\nb = this(a)\n", "type b\ntype a\n", "type a\ntype a\n", "type b\nx = this(b)\ntype a\ny = this(a)\n",
		"type a\nb = c\n", "type a\nb = this(c)\n", "type a\nb = this(a#c)\n", "type a\nb = c->b\n", "type a\nb = b->b\n", "type a\nb = this(a)\nc = b->d\n", "type a\nb = this(a) - b\n", "type a\nb = this(a)\nc = b->b\nd = c->b\n", "type a\nb = this(a) & (b | c)\n",
		"type a\nb = this(a#b)\nc = b->b\n", "type a\nb = this(a) | b & b\n", "type a\nb = (this(a))\n", "type a\nb = (this(a) | b)\n",
	} {
		refuseSchema(t, text)
	}
}

// Each line of a right schema's text taken out, doubled, moved or broken: what is left is read only if it is its own text.
func TestLinesOutOfOrder(t *testing.T) {
	text := "type doc\nbanned = this(user)\nparent = this(doc)\nviewer = (this(user,group#member) | parent->viewer) - banned\ntype group\nmember = this(user,group#member)\ntype user\n"
	s, ok := impl.ReadSchema(text)
	if !ok || impl.SchemaText(s) != text {
		t.Fatal(s, ok)
	}
	lines := strings.SplitAfter(strings.TrimSuffix(text, "\n"), "\n")
	lines[len(lines)-1] += "\n"
	for i := range lines {
		for j := range lines {
			swapped := slices.Clone(lines)
			swapped[i], swapped[j] = swapped[j], swapped[i]
			if i != j {
				refuseSchema(t, strings.Join(swapped, ""))
			}
		}
		refuseSchema(t, strings.Join(slices.Insert(slices.Clone(lines), i, lines[i]), ""))
		refuseSchema(t, strings.Join(slices.Insert(slices.Clone(lines), i, "\n"), ""))
		refuseSchema(t, strings.Join(lines[:i], "")+strings.TrimSuffix(lines[i], "\n"))
	}
}
