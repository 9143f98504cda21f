package impl

import "slices"

const (
	RwThis   = 1
	RwRel    = 2
	RwOver   = 3
	RwUnion  = 4
	RwBoth   = 5
	RwBut    = 6
	MaxTypes = 6
	MaxRels  = 6
	MaxExpr  = 15
	MaxKids  = 5
)

type Allowed struct {
	Type string
	Set  string
}

type Expr struct {
	Kind  int64
	Allow []Allowed
	Over  string
	Name  string
	Kids  []int64
}

type Relation struct {
	Name string
	Expr []Expr
}

type Type struct {
	Name string
	Rels []Relation
}

// relKey names a relation of a schema.
type relKey struct {
	typ string
	rel string
}

// relTable finds a relation's Expr; the lists in it are those of the schema and only read.
type relTable map[relKey][]Expr

// leaner is a relation that leans on another one and stands at least step above it.
type leaner struct {
	key  relKey
	step int64
}

func ExprOk(e []Expr) bool {
	if len(e) < 1 || len(e) > MaxExpr {
		return false
	}
	own := 0
	for _, n := range e {
		if !nodeOk(n) {
			return false
		}
		if n.Kind == RwThis {
			own++
		}
	}
	return own <= 1 && kidsInPlace(e)
}

func nodeOk(n Expr) bool {
	noAllow, noKids := len(n.Allow) == 0, len(n.Kids) == 0
	switch n.Kind {
	case RwThis:
		return allowOk(n.Allow) && n.Over == "" && n.Name == "" && noKids
	case RwRel:
		return NameOk(n.Name) && noAllow && n.Over == "" && noKids
	case RwOver:
		return NameOk(n.Over) && NameOk(n.Name) && noAllow && noKids
	case RwUnion, RwBoth:
		return len(n.Kids) >= 2 && len(n.Kids) <= MaxKids && noAllow && n.Over == "" && n.Name == ""
	case RwBut:
		return len(n.Kids) == 2 && noAllow && n.Over == "" && n.Name == ""
	}
	return false
}

func allowOk(list []Allowed) bool {
	if len(list) < 1 || len(list) > MaxTypes {
		return false
	}
	for i, a := range list {
		if !NameOk(a.Type) || !setOk(a.Set) || slices.Contains(list[:i], a) {
			return false
		}
	}
	return true
}

// kidsInPlace goes from each node back over its kids: each kid must end where the next one begins.
func kidsInPlace(e []Expr) bool {
	var begins [MaxExpr]int64
	for i, n := range e {
		begin := int64(i)
		for j := len(n.Kids) - 1; j >= 0; j-- {
			if begin == 0 || n.Kids[j] != begin-1 {
				return false
			}
			begin = begins[begin-1]
		}
		begins[i] = begin
	}
	return begins[len(e)-1] == 0
}

func SchemaOk(s []Type) bool {
	_, ok := strataOf(s)
	return ok
}

// strataOf answers the stratum of each relation; false when s is not right.
func strataOf(s []Type) (map[relKey]int64, bool) {
	if !typesOk(s) {
		return nil, false
	}
	table := tableOf(s)
	for _, t := range s {
		for _, r := range t.Rels {
			if !namesFound(s, table, t.Name, r.Expr) {
				return nil, false
			}
		}
	}
	return leastStrata(s, leanersOf(s, table))
}

func typesOk(s []Type) bool {
	if len(s) > MaxTypes {
		return false
	}
	for i, t := range s {
		if !NameOk(t.Name) || i > 0 && s[i-1].Name >= t.Name || !relationsOk(t.Rels) {
			return false
		}
	}
	return true
}

func relationsOk(list []Relation) bool {
	if len(list) > MaxRels {
		return false
	}
	for i, r := range list {
		if !NameOk(r.Name) || i > 0 && list[i-1].Name >= r.Name || !ExprOk(r.Expr) {
			return false
		}
	}
	return true
}

func tableOf(s []Type) relTable {
	table := relTable{}
	for _, t := range s {
		for _, r := range t.Rels {
			table[relKey{t.Name, r.Name}] = r.Expr
		}
	}
	return table
}

func (table relTable) has(typ string, rel string) bool {
	_, there := table[relKey{typ, rel}]
	return there
}

// namesFound tells whether all that an Expr of the type typ names is there.
func namesFound(s []Type, table relTable, typ string, e []Expr) bool {
	for _, n := range e {
		switch n.Kind {
		case RwThis:
			if !allowFound(s, table, n.Allow) {
				return false
			}
		case RwRel:
			if !table.has(typ, n.Name) {
				return false
			}
		case RwOver:
			if len(goalsOf(table, typ, n)) == 0 {
				return false
			}
		}
	}
	return true
}

func allowFound(s []Type, table relTable, list []Allowed) bool {
	for _, a := range list {
		if !slices.ContainsFunc(s, func(t Type) bool { return t.Name == a.Type }) {
			return false
		}
		if a.Set != "" && !table.has(a.Type, a.Set) {
			return false
		}
	}
	return true
}

// goalsOf answers the goals of an RwOver of the type typ: none when its Over is not told by objects.
func goalsOf(table relTable, typ string, n Expr) []string {
	over := table[relKey{typ, n.Over}]
	if !toldByObjects(over) {
		return nil
	}
	var goals []string
	for _, a := range over[0].Allow {
		if table.has(a.Type, n.Name) {
			goals = append(goals, a.Type)
		}
	}
	return goals
}

func toldByObjects(e []Expr) bool {
	if len(e) != 1 || e[0].Kind != RwThis {
		return false
	}
	return !slices.ContainsFunc(e[0].Allow, func(a Allowed) bool { return a.Set != "" })
}

// leanersOf answers, of each relation, those that lean on it.
func leanersOf(s []Type, table relTable) map[relKey][]leaner {
	leaners := map[relKey][]leaner{}
	for _, t := range s {
		for _, r := range t.Rels {
			away := takenAway(r.Expr)
			for i, n := range r.Expr {
				from := leaner{key: relKey{t.Name, r.Name}}
				if away[i] {
					from.step = 1
				}
				for _, on := range leansOn(table, t.Name, n) {
					leaners[on] = append(leaners[on], from)
				}
			}
		}
	}
	return leaners
}

// leansOn answers the relations on which one of the type typ leans by this node alone.
func leansOn(table relTable, typ string, n Expr) []relKey {
	var on []relKey
	switch n.Kind {
	case RwThis:
		for _, a := range n.Allow {
			if a.Set != "" {
				on = append(on, relKey{a.Type, a.Set})
			}
		}
	case RwRel:
		on = append(on, relKey{typ, n.Name})
	case RwOver:
		for _, goal := range goalsOf(table, typ, n) {
			on = append(on, relKey{goal, n.Name})
		}
	}
	return on
}

// takenAway tells of each node of a right expression whether it stands below the second kid of an RwBut.
func takenAway(e []Expr) []bool {
	away := make([]bool, len(e))
	for i := len(e) - 1; i >= 0; i-- {
		for j, kid := range e[i].Kids {
			away[kid] = away[i] || e[i].Kind == RwBut && j == 1
		}
	}
	return away
}

// leastStrata raises each relation to 0, and whatever leans on one that was raised as far as it must.
func leastStrata(s []Type, leaners map[relKey][]leaner) (map[relKey]int64, bool) {
	count := int64(0)
	for _, t := range s {
		count += int64(len(t.Rels))
	}
	strata := map[relKey]int64{}
	var raise func(key relKey, to int64) bool
	raise = func(key relKey, to int64) bool {
		if stratum, there := strata[key]; there && stratum >= to {
			return true
		}
		// Without a circle that takes away there are fewer steps up than relations.
		if to >= count {
			return false
		}
		strata[key] = to
		for _, from := range leaners[key] {
			if !raise(from.key, to+from.step) {
				return false
			}
		}
		return true
	}
	for _, t := range s {
		for _, r := range t.Rels {
			if !raise(relKey{t.Name, r.Name}, 0) {
				return nil, false
			}
		}
	}
	return strata, true
}

func RelOf(s []Type, typ string, rel string) ([]Expr, bool) {
	if !SchemaOk(s) {
		return nil, false
	}
	e, there := tableOf(s)[relKey{typ, rel}]
	if !there {
		return nil, false
	}
	return copyExpr(e), true
}

func copyExpr(e []Expr) []Expr {
	out := make([]Expr, len(e))
	for i, n := range e {
		n.Allow = append([]Allowed(nil), n.Allow...)
		n.Kids = append([]int64(nil), n.Kids...)
		out[i] = n
	}
	return out
}

func Fits(s []Type, t Tuple) bool {
	return SchemaOk(s) && tupleOk(t) && tableOf(s).fits(t)
}

func (table relTable) fits(t Tuple) bool {
	subject := Allowed{Type: t.Subject.Type, Set: t.Set}
	for _, n := range table[relKey{t.Object.Type, t.Rel}] {
		if n.Kind == RwThis && slices.Contains(n.Allow, subject) {
			return true
		}
	}
	return false
}

func StratumOf(s []Type, typ string, rel string) int64 {
	strata, ok := strataOf(s)
	if !ok {
		return -1
	}
	stratum, there := strata[relKey{typ, rel}]
	if !there {
		return -1
	}
	return stratum
}
