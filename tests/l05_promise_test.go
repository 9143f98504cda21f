package tests

import (
	"math/rand"
	"slices"
	"testing"

	"loop.example/g00297/impl"
)

// What the document promises of proofs, asked of many schemas, tuples and facts.

// followsFrom goes by the words of the document, of right data and a right fact; there are the Facts.
func (a asker) followsFrom(known map[impl.Fact]bool, there map[impl.Fact]bool, f impl.Fact) bool {
	e := a.exprs[[2]string{f.Object.Type, f.Rel}]
	return len(e) > 0 && wholeHolds(e, a.l, f, func(g impl.Fact, away bool) bool {
		if away {
			return there[g]
		}
		return known[g]
	})
}

// isProof has no limit of its own.
func (a asker) isProof(list []impl.Fact, there map[impl.Fact]bool) bool {
	known := map[impl.Fact]bool{}
	for _, f := range list {
		if !a.followsFrom(known, there, f) {
			return false
		}
		known[f] = true
	}
	return len(list) > 0
}

func firstNamed(l []impl.Tuple) (objects []impl.Object, users []impl.Object) {
	for _, u := range l {
		for _, o := range []impl.Object{u.Object, u.Subject} {
			if !slices.Contains(objects, o) {
				objects = append(objects, o)
			}
		}
		if u.Set == "" && !slices.Contains(users, u.Subject) {
			users = append(users, u.Subject)
		}
	}
	return objects, users
}

// inFoundOrder goes round by round through all that comes into question.
func (a asker) inFoundOrder(s []impl.Type) []impl.Fact {
	objects, users := firstNamed(a.l)
	var list []impl.Fact
	known := map[impl.Fact]bool{}
	for _, rels := range byStratum(s) {
		for ahead := -1; ahead < len(list); {
			ahead = len(list)
			for _, o := range objects {
				for _, name := range rels[o.Type] {
					for _, u := range users {
						f := impl.Fact{Object: o, Rel: name, User: u}
						if !known[f] && a.followsFrom(known, known, f) {
							known[f] = true
							list = append(list, f)
						}
					}
				}
			}
		}
	}
	return list
}

// byStratum answers of each stratum the names of its relations, by type and in order.
func byStratum(s []impl.Type) []map[string][]string {
	var list []map[string][]string
	for _, ty := range s {
		for _, re := range ty.Rels {
			stratum := impl.StratumOf(s, ty.Name, re.Name)
			for int64(len(list)) <= stratum {
				list = append(list, map[string][]string{})
			}
			list[stratum][ty.Name] = append(list[stratum][ty.Name], re.Name)
		}
	}
	return list
}

// leftOut tries each step but the last, from behind, on the whole list.
func (a asker) leftOut(list []impl.Fact, there map[impl.Fact]bool) []impl.Fact {
	out := slices.Clone(list)
	for i := len(out) - 2; i >= 0; i-- {
		if less := slices.Delete(slices.Clone(out), i, i+1); a.isProof(less, there) {
			out = less
		}
	}
	return out
}

// leaningData answers right data of which few facts are told by tuples themselves, so that proofs are long.
func leaningData(r *rand.Rand) ([]impl.Type, []impl.Tuple) {
	s, _ := randomData(r, 0)
	var own, leaning []impl.Tuple
	for _, u := range fittingTuples(s, "x", "y", "z") {
		if u.Set != "" || u.Rel == "up" {
			leaning = append(leaning, u)
		} else {
			own = append(own, u)
		}
	}
	shuffleTuples(r, own)
	shuffleTuples(r, leaning)
	return s, inTextOrder(slices.Concat(own[:2+r.Intn(6)], leaning[:min(len(leaning), 10+r.Intn(20))]))
}

func TestProofsAreWhatIsLeftOfTheFactsFound(t *testing.T) {
	r := rand.New(rand.NewSource(51))
	steps := map[int]int{}
	for i := range 400 {
		s, l := leaningData(r)
		if i%4 == 0 {
			s, l = randomData(r, impl.MaxTuples)
		}
		a := askerOf(s, l)
		found := a.inFoundOrder(s)
		there := setOfFacts(found)
		if len(there) != len(impl.Facts(s, l)) {
			t.Fatal("not as many facts")
		}
		for at, f := range found {
			if r.Intn(4) > 0 && at < len(found)-3 {
				continue
			}
			want := a.leftOut(found[:at+1], there)
			got, ok := impl.ProofOf(s, l, f)
			if !ok || !slices.Equal(got, want) {
				t.Fatalf("the proof of %s is\n%s, not\n%s, of\n%s%v", factText(f), factsText(got), factsText(want), impl.SchemaText(s), l)
			}
			steps[len(want)]++
		}
	}
	if steps[1] < 200 || steps[2] < 200 || steps[3] < 50 || steps[4] < 20 || steps[5] < 5 {
		t.Error("too few proofs of a length", steps)
	}
}

func TestAFactHasAProofJustWhereItIsThere(t *testing.T) {
	r := rand.New(rand.NewSource(52))
	all := everyFact()
	for range 12 {
		s, l := randomData(r, impl.MaxTuples)
		there := setOfFacts(impl.Facts(s, l))
		for _, f := range all {
			list, ok := impl.ProofOf(s, l, f)
			if ok != there[f] || ok != (len(list) > 0) {
				t.Fatalf("%s has the proof %s (%v) of\n%s%v", factText(f), factsText(list), ok, impl.SchemaText(s), l)
			}
			if ok && list[len(list)-1] != f {
				t.Fatalf("%s is no proof of %s", factsText(list), factText(f))
			}
		}
	}
}

func TestNoStepOfAProofCanBeLeftOut(t *testing.T) {
	r := rand.New(rand.NewSource(53))
	steps := 0
	for range 250 {
		s, l := leaningData(r)
		for _, f := range impl.Facts(s, l) {
			list, _ := impl.ProofOf(s, l, f)
			if !impl.ProofOk(s, l, list) {
				t.Fatalf("%s is no proof of\n%s%v", factsText(list), impl.SchemaText(s), l)
			}
			for i := range len(list) - 1 {
				if impl.ProofOk(s, l, slices.Delete(slices.Clone(list), i, i+1)) {
					t.Fatalf("%s can be left out of %s of\n%s%v", factText(list[i]), factsText(list), impl.SchemaText(s), l)
				}
				steps++
			}
		}
	}
	if steps < 1000 {
		t.Error("too few steps", steps)
	}
}

// Lists that go on with what follows most times, and with any fact else.
func TestWhateverIsAProofHasFactsAlone(t *testing.T) {
	r := rand.New(rand.NewSource(54))
	all := everyFact()
	proofs, others := 0, 0
	for range 300 {
		s, l := randomData(r, impl.MaxTuples)
		facts := impl.Facts(s, l)
		there := setOfFacts(facts)
		a := askerOf(s, l)
		for range 8 {
			list := randomSteps(r, a, there, all)
			got := impl.ProofOk(s, l, list)
			if got != a.isProof(list, there) {
				t.Fatalf("%s is told to be %v of\n%s%v", factsText(list), got, impl.SchemaText(s), l)
			}
			for _, f := range list {
				if got && !there[f] {
					t.Fatalf("%s has %s, no fact of\n%s%v", factsText(list), factText(f), impl.SchemaText(s), l)
				}
			}
			if got {
				proofs++
			} else {
				others++
			}
		}
	}
	if proofs < 300 || others < 300 {
		t.Error("too few of a sort", proofs, others)
	}
}

func randomSteps(r *rand.Rand, a asker, there map[impl.Fact]bool, all []impl.Fact) []impl.Fact {
	var list []impl.Fact
	known := map[impl.Fact]bool{}
	for range 1 + r.Intn(6) {
		f := all[r.Intn(len(all))]
		for range 300 {
			if a.followsFrom(known, there, f) && (!known[f] || r.Intn(4) == 0) {
				break
			}
			f = all[r.Intn(len(all))]
		}
		known[f] = true
		list = append(list, f)
	}
	if r.Intn(3) == 0 {
		r.Shuffle(len(list), func(i, j int) { list[i], list[j] = list[j], list[i] })
	}
	return list
}

// someOf answers up to most of the facts, one of them twice at times.
func someOf(r *rand.Rand, list []impl.Fact, most int) []impl.Fact {
	var out []impl.Fact
	for range r.Intn(most + 1) {
		out = append(out, list[r.Intn(len(list))])
	}
	return out
}

// factsOfOne answers every fact of one user, whom the data may know or not.
func factsOfOne(r *rand.Rand) []impl.Fact {
	var list []impl.Fact
	u := impl.Object{Type: "user", Id: []string{"x", "y", "w"}[r.Intn(3)]}
	for _, f := range everyFact() {
		if f.User == u && (f.Object.Type == "one" || f.Object.Type == "two") && len(f.Rel) <= 2 {
			list = append(list, f)
		}
	}
	return list
}

func TestWhatFollowsFollowsFromMore(t *testing.T) {
	r := rand.New(rand.NewSource(55))
	kept, brought, none, away := 0, 0, 0, 0
	for i := range 400 {
		s, l := leaningData(r)
		if i%2 == 0 {
			s, l = randomData(r, impl.MaxTuples)
		}
		there := setOfFacts(impl.Facts(s, l))
		a := askerOf(s, l)
		list := factsOfOne(r)
		known := someOf(r, list, 10)
		more := append(slices.Clone(known), someOf(r, list, 10)...)
		r.Shuffle(len(more), func(i, j int) { more[i], more[j] = more[j], more[i] })
		for _, f := range list {
			few, many := impl.Follows(s, l, known, f), impl.Follows(s, l, more, f)
			if few != a.followsFrom(setOfFacts(known), there, f) || many != a.followsFrom(setOfFacts(more), there, f) {
				t.Fatalf("%s from %s: %v, from %s: %v, of\n%s%v", factText(f), factsText(known), few, factsText(more), many, impl.SchemaText(s), l)
			}
			if few && !many {
				t.Fatalf("%s follows from %s, and not from %s, of\n%s%v", factText(f), factsText(known), factsText(more), impl.SchemaText(s), l)
			}
			if few {
				kept++
			} else if many {
				brought++
			}
			if many && !there[f] {
				none++
			}
			if many != a.followsFrom(setOfFacts(more), setOfFacts(more), f) {
				away++
			}
		}
	}
	if kept < 500 || brought < 200 || none < 200 || away < 80 {
		t.Error("too few of a sort", kept, brought, none, away)
	}
}

func TestWhatFollowsFromAllFactsIsAFact(t *testing.T) {
	r := rand.New(rand.NewSource(56))
	all := everyFact()
	for range 15 {
		s, l := randomData(r, impl.MaxTuples)
		facts := impl.Facts(s, l)
		there := setOfFacts(facts)
		if len(facts) > 200 {
			t.Fatal("too many facts")
		}
		for _, f := range all {
			if impl.Follows(s, l, facts, f) != there[f] {
				t.Fatalf("%s of\n%s%v", factText(f), impl.SchemaText(s), l)
			}
		}
	}
}

func TestProofsLeaveArgumentsAlone(t *testing.T) {
	r := rand.New(rand.NewSource(57))
	marker := impl.Fact{Rel: "room"}
	for range 60 {
		s, l := randomData(r, impl.MaxTuples)
		facts := impl.Facts(s, l)
		oldSchema, oldTuples := copySchema(s), slices.Clone(l)
		types := append(copySchema(s), typ("zoo", relation("a", this(user()))))
		room := append(slices.Clone(l), impl.Tuple{Rel: "room"})
		s, l = types[:len(s)], room[:len(l)]
		for _, f := range append(facts, impl.Fact{}) {
			first, ok := impl.ProofOf(s, l, f)
			second, _ := impl.ProofOf(s, l, f)
			list := append(slices.Clone(first), marker)
			if impl.ProofOk(s, l, list[:len(first)]) != ok || ok != impl.Follows(s, l, list[:len(first)], f) && len(first) > 1 {
				t.Fatalf("the proof of %v", f)
			}
			if !slices.Equal(list[:len(first)], second) || list[len(first)] != marker {
				t.Fatal("a list was written into, or the same arguments have two answers")
			}
			clear(second)
			if !slices.Equal(first, list[:len(first)]) {
				t.Fatal("two answers share memory")
			}
		}
		if !same(s, oldSchema) || !same(types[len(s)], typ("zoo", relation("a", this(user())))) || !slices.Equal(l, oldTuples) || room[len(l)] != (impl.Tuple{Rel: "room"}) {
			t.Fatal("an argument or the room behind it was written into")
		}
	}
}

// Data and facts made of odd things: each is answered, and where the data are not right nothing follows.
func TestOddProofsAreAnswered(t *testing.T) {
	r := rand.New(rand.NewSource(58))
	all := everyFact()
	odd := append(wrongFacts(), all[:40]...)
	count := map[bool]int{}
	for range 2000 {
		s, l := randomData(r, 6)
		if r.Intn(2) == 0 {
			s = randomSchema(r)
		}
		if r.Intn(3) == 0 {
			spoilSomewhere(r, s)
		}
		right := impl.SchemaOk(s) && impl.TuplesOk(l)
		for _, u := range l {
			right = right && impl.Fits(s, u)
		}
		count[right]++
		known := someOf(r, odd, 8)
		f := append(known, all[r.Intn(len(all))])[r.Intn(len(known)+1)]
		follows, proof := impl.Follows(s, l, known, f), impl.ProofOk(s, l, known)
		list, told := impl.ProofOf(s, l, f)
		if !right && (follows || proof || told || len(list) > 0) {
			t.Fatalf("%v, %v, %v of %v and %v", follows, proof, list, s, l)
		}
		if follows && factText(f) == "" || told != impl.Check(s, l, f) {
			t.Fatalf("%v of %v and %v", f, s, l)
		}
	}
	if count[true] < 300 || count[false] < 300 {
		t.Error("too few of a sort", count)
	}
}
