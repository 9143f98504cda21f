package tests

import (
	"math/rand"
	"strings"
	"testing"

	"loop.example/g00297/impl"
)

// Texts of many expressions and schemas, held against what the document says of them, worked out another way.

// textOf goes down from the node at a place.
func textOf(e []impl.Expr, at int64) string {
	n := e[at]
	switch n.Kind {
	case impl.RwThis:
		text := ""
		for _, a := range n.Allow {
			text += "," + a.Type
			if a.Set != "" {
				text += "#" + a.Set
			}
		}
		return "this(" + text[1:] + ")"
	case impl.RwRel:
		return n.Name
	case impl.RwOver:
		return n.Over + "->" + n.Name
	}
	text := ""
	for i, kid := range n.Kids {
		if i > 0 {
			text += " " + string("|&-"[n.Kind-impl.RwUnion]) + " "
		}
		text += textOf(e, kid)
	}
	if at < int64(len(e))-1 {
		return "(" + text + ")"
	}
	return text
}

func schemaTextOf(s []impl.Type) string {
	text := ""
	for _, t := range s {
		text += "type " + t.Name + "\n"
		for _, r := range t.Rels {
			text += r.Name + " = " + textOf(r.Expr, int64(len(r.Expr))-1) + "\n"
		}
	}
	return text
}

func randomLeaf(r *rand.Rand, free *bool) []impl.Expr {
	words := []string{"a", "b", "th", "thisis", "type", "abcdefghijkl"}
	word := func() string { return words[r.Intn(len(words))] }
	switch r.Intn(4) {
	case 0:
		return over(word(), word())
	case 1:
		if *free {
			*free = false
			var list []impl.Allowed
			for _, i := range r.Perm(len(words))[:1+r.Intn(len(words))] {
				a := impl.Allowed{Type: words[i]}
				if r.Intn(2) == 0 {
					a.Set = word()
				}
				list = append(list, a)
			}
			return this(list...)
		}
	}
	return rel(word())
}

func TestManyExpressionsComeBack(t *testing.T) {
	r := rand.New(rand.NewSource(5))
	sizes := map[int]int{}
	for range 20000 {
		free := true
		e := randomTree(r, 1+r.Intn(8), func() []impl.Expr { return randomLeaf(r, &free) })
		sizes[len(e)]++
		wantText(t, e, textOf(e, int64(len(e))-1))
		if t.Failed() {
			return
		}
	}
	if sizes[1] < 100 || sizes[impl.MaxExpr] < 100 {
		t.Error("too few of a size", sizes)
	}
}

func TestManySchemasComeBack(t *testing.T) {
	r := rand.New(rand.NewSource(6))
	count := map[bool]int{}
	for range 5000 {
		s := randomSchema(r)
		right := !takesItselfAway(bondsOf(s))
		count[right]++
		text := schemaTextOf(s)
		if right {
			wantSchemaText(t, s, text)
		} else {
			refuseSchema(t, text)
			if impl.SchemaText(s) != "" {
				t.Error("a schema without strata has a text", s)
			}
		}
		if t.Failed() {
			return
		}
	}
	if count[true] < 500 || count[false] < 500 {
		t.Error("too few of a sort", count)
	}
}

// allTexts answers the texts of all right expressions of up to so many leaves a, parted by these kinds.
func allTexts(leaves int, kinds ...int64) map[string]bool {
	trees := make([][][]impl.Expr, leaves+1)
	trees[1] = [][]impl.Expr{rel("a")}
	for n := 2; n <= leaves; n++ {
		for _, kids := range partings(trees, n, impl.MaxKids) {
			for _, kind := range kinds {
				if len(kids) >= 2 && (kind != impl.RwBut || len(kids) == 2) {
					trees[n] = append(trees[n], node(kind, kids))
				}
			}
		}
	}
	texts := map[string]bool{}
	for _, list := range trees {
		for _, e := range list {
			texts[textOf(e, int64(len(e))-1)] = true
		}
	}
	return texts
}

// partings answers all lists of at most so many trees with n leaves together.
func partings(trees [][][]impl.Expr, n int, most int) [][][]impl.Expr {
	if n == 0 {
		return [][][]impl.Expr{nil}
	}
	if most == 0 {
		return nil
	}
	var out [][][]impl.Expr
	for first := 1; first <= n; first++ {
		for _, tree := range trees[first] {
			for _, rest := range partings(trees, n-first, most-1) {
				out = append(out, append([][]impl.Expr{tree}, rest...))
			}
		}
	}
	return out
}

// eachText puts the parts behind one another in every way there is, up to so many of them.
func eachText(parts []string, most int, text string, ask func(string)) {
	ask(text)
	if most == 0 {
		return
	}
	for _, p := range parts {
		eachText(parts, most-1, text+p, ask)
	}
}

// Of all texts that can be made of some parts just those are read that are written.
func TestJustTheTextsThatAreWrittenAreRead(t *testing.T) {
	for _, c := range []struct {
		parts []string
		most  int
		kinds []int64
		want  int
	}{
		{[]string{"a", " | ", " - ", "(", ")"}, 9, []int64{impl.RwUnion, impl.RwBut}, 24},
		{[]string{"a", " | ", " & ", " - ", "(", ")"}, 7, []int64{impl.RwUnion, impl.RwBoth, impl.RwBut}, 26},
		{[]string{"a", " ", "|", "(", ")"}, 9, []int64{impl.RwUnion}, 3},
	} {
		written := allTexts(6, c.kinds...)
		count := 0
		eachText(c.parts, c.most, "", func(text string) {
			e, ok := impl.ReadExpr(text)
			// Names of more than one a are names too, of which allTexts has none.
			if strings.Contains(text, "aa") {
				if ok && impl.ExprText(e) != text {
					t.Fatalf("%q was read as %v", text, e)
				}
				return
			}
			if ok != written[text] || ok && impl.ExprText(e) != text || !ok && e != nil {
				t.Fatalf("%q was read as %v, %v", text, e, ok)
			}
			if ok {
				count++
			}
		})
		if count != c.want {
			t.Error("another count of texts was read", c.parts, count)
		}
	}
}

var oddSigns = []string{"", "a", "s", "(", ")", " ", "|", "&", "-", ">", ",", "#", "=", "\n", "\t", "1", "A", "\x00", "\xff", "this(a)", "type "}

// Each byte of a text put in another's place, taken out or put in: what is read has that text.
func TestWhatIsReadIsWhatIsWritten(t *testing.T) {
	free := true
	r := rand.New(rand.NewSource(7))
	texts := []string{"this(user,group#member) | a", "(a | b->c) - (d & this(e#f))"}
	for range 20 {
		e := randomTree(r, 1+r.Intn(6), func() []impl.Expr { return randomLeaf(r, &free) })
		texts = append(texts, textOf(e, int64(len(e))-1))
	}
	read := 0
	for _, text := range texts {
		for _, s := range spoiled(text) {
			e, ok := impl.ReadExpr(s)
			if ok && (!impl.ExprOk(e) || impl.ExprText(e) != s) || !ok && e != nil {
				t.Fatalf("%q was read as %v, %v", s, e, ok)
			}
			if ok && s != text {
				read++
			}
		}
	}
	if read < 1000 {
		t.Error("too few were read", read)
	}
}

func TestWhatIsReadIsWhatIsWrittenOfSchemas(t *testing.T) {
	text := "type a\nb = this(a)\nc = b->b - (b | this(a#b,d))\ntype d\ntype e\nb = this(d)\nf = (this(a,a#c) | b) - b\n"
	if s, ok := impl.ReadSchema(text); !ok || impl.SchemaText(s) != text {
		t.Fatal(s, ok)
	}
	read := 0
	for _, x := range spoiled(text) {
		s, ok := impl.ReadSchema(x)
		if ok && (!impl.SchemaOk(s) || impl.SchemaText(s) != x) || !ok && s != nil {
			t.Fatalf("%q was read as %v, %v", x, s, ok)
		}
		if ok && x != text {
			read++
		}
	}
	if read < 15 {
		t.Error("too few were read", read)
	}
}

func spoiled(text string) []string {
	var out []string
	for i := range len(text) + 1 {
		for _, sign := range oddSigns {
			out = append(out, text[:i]+sign+text[i:], text[:i]+sign+text[min(i+1, len(text)):])
		}
	}
	return out
}

func TestTextsAreAnsweredAnew(t *testing.T) {
	text := "(this(user,group#member) | editor | parent->viewer) - banned"
	one, _ := impl.ReadExpr(text)
	two, ok := impl.ReadExpr(text)
	if !ok || !same(one, two) {
		t.Fatal("another answer to the same text")
	}
	old := copyExpr(two)
	if impl.ExprText(two) != text || impl.ExprText(two) != text || !same(two, old) {
		t.Error("an argument was written into")
	}
	spoil(one)
	if !same(two, old) {
		t.Error("two answers share memory")
	}
	lines := "type doc\na = this(user)\nb = this(user,doc#a) | a\nc = this(user,doc#a) | a\ntype user\n"
	s, _ := impl.ReadSchema(lines)
	again, ok := impl.ReadSchema(lines)
	if !ok || !same(s, again) {
		t.Fatal("another answer to the same lines")
	}
	kept := copySchema(again)
	if impl.SchemaText(again) != lines || impl.SchemaText(again) != lines || !same(again, kept) {
		t.Error("an argument was written into")
	}
	spoil(s[0].Rels[1].Expr)
	if !same(s[0].Rels[2], kept[0].Rels[2]) || !same(again, kept) {
		t.Error("two lists share memory")
	}
}

// Lists in which nodes are appended could run into one another: no room behind one is another's.
func TestRoomBehindWhatIsRead(t *testing.T) {
	e, _ := impl.ReadExpr("this(user,group#member) | (a & b & c)")
	old := copyExpr(e)
	for i := range e {
		_ = append(e[i].Allow, impl.Allowed{Type: "odd"})
		_ = append(e[i].Kids, -1)
	}
	_ = append(e, impl.Expr{Kind: -1})
	if !same(copyExpr(e), old) {
		t.Error("two lists of one answer share memory")
	}
	lines := "type doc\na = this(user)\nb = a\ntype user\n"
	s, _ := impl.ReadSchema(lines)
	for i := range s {
		_ = append(s[i].Rels, relation("odd", nil))
		for j := range s[i].Rels {
			_ = append(s[i].Rels[j].Expr, impl.Expr{Kind: -1})
		}
	}
	if impl.SchemaText(s) != lines {
		t.Error("two lists of one answer share memory")
	}
}

// Odd nodes have a text only where they are right.
func TestOddExpressionsAreWritten(t *testing.T) {
	r := rand.New(rand.NewSource(8))
	words := []string{"", "a", "this"}
	for range 50000 {
		var e []impl.Expr
		for range r.Intn(5) {
			n := impl.Expr{Kind: int64(r.Intn(8)), Over: words[r.Intn(3)], Name: words[r.Intn(3)]}
			for range r.Intn(4) {
				n.Kids = append(n.Kids, int64(r.Intn(6)-1))
			}
			for range r.Intn(2) {
				n.Allow = append(n.Allow, impl.Allowed{Type: words[r.Intn(3)], Set: words[r.Intn(3)]})
			}
			e = append(e, n)
		}
		if text := impl.ExprText(e); (text != "") != impl.ExprOk(e) {
			t.Fatalf("%v has the text %q", e, text)
		}
	}
}
