package tests

import (
	"math/rand"
	"slices"
	"testing"

	"loop.example/g00297/impl"
)

// What the document promises of changes, asked of many schemas, tuples and histories.

// randomChange is of a tuple that fits, most times, and that is there or not.
func randomChange(r *rand.Rand, fit []impl.Tuple, l []impl.Tuple) impl.Change {
	c := impl.Change{Kind: int64(1 + r.Intn(2)), Tuple: fit[r.Intn(len(fit))]}
	if c.Kind == impl.ChDrop && len(l) > 0 && r.Intn(4) > 0 {
		c.Tuple = l[r.Intn(len(l))]
	}
	switch r.Intn(30) {
	case 0:
		c.Kind = int64(r.Intn(5)) - 1
	case 1:
		c.Tuple.Rel = []string{"", "this", "none", "up", "A"}[r.Intn(5)]
	case 2:
		c.Tuple.Subject.Type, c.Tuple.Set = "two", ""
	}
	return c
}

// codeByWords goes by the words of the document, of right data.
func codeByWords(s []impl.Type, l []impl.Tuple, c impl.Change) int64 {
	there := slices.Contains(l, c.Tuple)
	if c.Kind != 1 && c.Kind != 2 || impl.TupleText(c.Tuple) == "" {
		return 2
	}
	if c.Kind == 2 {
		if there {
			return 0
		}
		return 5
	}
	if !impl.Fits(s, c.Tuple) {
		return 3
	}
	if there {
		return 4
	}
	if len(l) == 40 {
		return 6
	}
	return 0
}

func TestAppliedOfManyChanges(t *testing.T) {
	r := rand.New(rand.NewSource(61))
	count := map[int64]int{}
	for range 1500 {
		s, _ := randomData(r, 0)
		fit := fittingTuples(s, "x", "y", "z")
		shuffleTuples(r, fit)
		l := inTextOrder(fit[:min(len(fit), r.Intn(6)*r.Intn(9))])
		if r.Intn(3) == 0 {
			l = inTextOrder(fit[:min(len(fit), impl.MaxTuples)])
		}
		for range 6 {
			c := randomChange(r, fit, l)
			code := codeByWords(s, l, c)
			want := slices.Clone(l)
			if code == 0 && c.Kind == impl.ChAdd {
				want = inTextOrder(append(want, c.Tuple))
			}
			if code == 0 && c.Kind == impl.ChDrop {
				want = slices.DeleteFunc(want, func(u impl.Tuple) bool { return u == c.Tuple })
			}
			got, told := impl.Applied(s, l, c)
			if told != code || !slices.Equal(got, want) {
				t.Fatalf("%v tells %d, not %d, and %s, not %s", c, told, code, tuplesText(got), tuplesText(want))
			}
			count[code]++
		}
	}
	for _, code := range []int64{impl.CgDone, impl.CgForm, impl.CgFits, impl.CgThere, impl.CgNone, impl.CgFull} {
		if count[code] < 50 {
			t.Error("too few of a code", count)
		}
	}
}

func TestAChangeIsUndoneByItsOtherOne(t *testing.T) {
	r := rand.New(rand.NewSource(62))
	count := map[int64]int{}
	for range 400 {
		s, l := randomData(r, impl.MaxTuples)
		fit := fittingTuples(s, "x", "y")
		for range 5 {
			c := randomChange(r, fit, l)
			next, code := impl.Applied(s, l, c)
			if code != impl.CgDone {
				continue
			}
			count[c.Kind]++
			other := impl.Change{Kind: impl.ChAdd + impl.ChDrop - c.Kind, Tuple: c.Tuple}
			back, code := impl.Applied(s, next, other)
			if code != impl.CgDone || !slices.Equal(back, l) {
				t.Fatalf("%v undone by %v: %d, %s, not %s", c, other, code, tuplesText(back), tuplesText(l))
			}
			more, less, _ := impl.Delta(s, l, c)
			brings, takes, _ := impl.Delta(s, next, other)
			if !slices.Equal(more, takes) || !slices.Equal(less, brings) {
				t.Fatalf("%v brings %s and takes %s; %v brings %s and takes %s", c, factsText(more), factsText(less), other, factsText(brings), factsText(takes))
			}
		}
	}
	if count[impl.ChAdd] < 200 || count[impl.ChDrop] < 200 {
		t.Error("too few of a sort", count)
	}
}

func TestWhatAChangeBringsAndTakesTurnsOldFactsIntoNewOnes(t *testing.T) {
	r := rand.New(rand.NewSource(63))
	all := everyFact()
	brought, taken, atOnce := 0, 0, 0
	for i := range 1500 {
		s, l := randomData(r, impl.MaxTuples-1)
		c := randomChange(r, fittingTuples(s, "x", "y"), l)
		next, code := impl.Applied(s, l, c)
		if code != impl.CgDone {
			continue
		}
		more, less, told := impl.Delta(s, l, c)
		if told != impl.CgDone {
			t.Fatal(told)
		}
		old, now := askerOf(s, l), askerOf(s, next)
		var wantMore, wantLess []impl.Fact
		if i%10 == 0 {
			for _, f := range all {
				was, is := old.follows(f, nil), now.follows(f, nil)
				if is && !was {
					wantMore = append(wantMore, f)
				}
				if was && !is {
					wantLess = append(wantLess, f)
				}
			}
			slices.SortFunc(wantMore, byText)
			slices.SortFunc(wantLess, byText)
			if !slices.Equal(more, wantMore) || !slices.Equal(less, wantLess) {
				t.Fatalf("%v brings\n%s, not\n%s, and takes\n%s, not\n%s", c, factsText(more), factsText(wantMore), factsText(less), factsText(wantLess))
			}
		}
		facts := slices.DeleteFunc(impl.Facts(s, l), func(f impl.Fact) bool { return slices.Contains(less, f) })
		facts = append(facts, more...)
		slices.SortFunc(facts, byText)
		if !slices.Equal(facts, impl.Facts(s, next)) || !slices.IsSortedFunc(more, byText) || !slices.IsSortedFunc(less, byText) {
			t.Fatalf("%v brings\n%s, and takes\n%s, of\n%s%v", c, factsText(more), factsText(less), impl.SchemaText(s), l)
		}
		brought += len(more)
		taken += len(less)
		if len(more) > 0 && len(less) > 0 {
			atOnce++
		}
	}
	if brought < 200 || taken < 200 || atOnce < 15 {
		t.Error("too few of a sort", brought, taken, atOnce)
	}
}

func byText(a, b impl.Fact) int {
	switch {
	case factText(a) < factText(b):
		return -1
	case factText(a) > factText(b):
		return 1
	}
	return 0
}

// randomLog answers changes, most of which can be done behind those ahead of them.
func randomLog(r *rand.Rand, s []impl.Type, long int) []impl.Change {
	fit := fittingTuples(s, "x", "y")
	var l []impl.Tuple
	var log []impl.Change
	for range long {
		c := randomChange(r, fit, l)
		if r.Intn(60) > 0 {
			for codeByWords(s, l, c) != 0 {
				c = randomChange(r, fit, l)
			}
		}
		l, _ = impl.Applied(s, l, c)
		log = append(log, c)
	}
	return log
}

// placesOf answers the tuples at each place, as far as the changes can be done.
func placesOf(s []impl.Type, log []impl.Change) [][]impl.Tuple {
	places := [][]impl.Tuple{nil}
	for _, c := range log {
		l := slices.Clone(places[len(places)-1])
		if codeByWords(s, l, c) != 0 {
			break
		}
		if c.Kind == impl.ChAdd {
			l = inTextOrder(append(l, c.Tuple))
		} else {
			l = slices.DeleteFunc(l, func(u impl.Tuple) bool { return u == c.Tuple })
		}
		places = append(places, l)
	}
	return places
}

func TestWhatWasTrueDoesNotHangOnWhatCameLater(t *testing.T) {
	r := rand.New(rand.NewSource(64))
	all := everyFact()
	there, none, stopped := 0, 0, 0
	for range 60 {
		s, _ := randomData(r, 0)
		log := randomLog(r, s, r.Intn(impl.MaxLog+1))
		places := placesOf(s, log)
		if len(places) <= len(log) {
			stopped++
		}
		// Another history with the same beginning.
		at := r.Intn(len(log) + 1)
		other := append(slices.Clone(log[:at]), randomLog(r, s, r.Intn(impl.MaxLog+1-at))...)
		for n := range len(log) + 1 {
			l, ok := impl.TuplesAt(s, log, int64(n))
			if ok != (n < len(places)) || ok && !slices.Equal(l, places[n]) || !ok && len(l) > 0 {
				t.Fatalf("at %d: %s, %v of\n%s%v", n, tuplesText(l), ok, impl.SchemaText(s), log)
			}
			short, told := impl.TuplesAt(s, log[:n], int64(n))
			if told != ok || !slices.Equal(short, l) {
				t.Fatalf("at %d: %s, and %s with all that came later", n, tuplesText(short), tuplesText(l))
			}
			if n <= at {
				if away, told := impl.TuplesAt(s, other, int64(n)); told != ok || !slices.Equal(away, l) {
					t.Fatalf("at %d: %s, and %s with what else might have come", n, tuplesText(l), tuplesText(away))
				}
			}
			for range 4 {
				f := all[r.Intn(len(all))]
				if facts := impl.Facts(s, l); len(facts) > 0 && r.Intn(2) == 0 {
					f = facts[r.Intn(len(facts))]
				}
				is, told := impl.CheckAt(s, log, int64(n), f)
				if told != ok || is != (ok && impl.Check(s, l, f)) {
					t.Fatalf("%s at %d: %v, %v", factText(f), n, is, told)
				}
				if is {
					there++
				} else {
					none++
				}
			}
		}
	}
	if there < 500 || none < 500 || stopped < 3 || stopped > 50 {
		t.Error("too few of a sort", there, none, stopped)
	}
}

func TestChangesLeaveArgumentsAlone(t *testing.T) {
	r := rand.New(rand.NewSource(65))
	for range 200 {
		s, l := randomData(r, impl.MaxTuples)
		log := randomLog(r, s, r.Intn(20))
		oldSchema, oldTuples, oldLog := copySchema(s), slices.Clone(l), slices.Clone(log)
		s, schemaKept := roomy(s, typ("zoo", relation("a", this(user()))))
		l, tuplesKept := roomy(l, impl.Tuple{Rel: "room"})
		log, logKept := roomy(log, impl.Change{Kind: 7})
		c := randomChange(r, fittingTuples(s, "x", "y"), l)
		next, code := impl.Applied(s, l, c)
		more, less, _ := impl.Delta(s, l, c)
		at, ok := impl.TuplesAt(s, log, int64(len(log)))
		impl.CheckAt(s, log, int64(len(log)), impl.Fact{})
		wantApart(t, "changes", s, l, log, next, more, less, at)
		if !same(s, oldSchema) || !slices.Equal(l, oldTuples) || !slices.Equal(log, oldLog) || !schemaKept() || !tuplesKept() || !logKept() {
			t.Fatal("an argument or the room behind it was written into")
		}
		again, codeAgain := impl.Applied(s, l, c)
		moreAgain, lessAgain, _ := impl.Delta(s, l, c)
		atAgain, okAgain := impl.TuplesAt(s, log, int64(len(log)))
		if code != codeAgain || ok != okAgain || !slices.Equal(next, again) || !slices.Equal(more, moreAgain) || !slices.Equal(less, lessAgain) || !slices.Equal(at, atAgain) {
			t.Fatal("another answer to the same arguments")
		}
	}
}

// Data and changes made of odd things: each is answered, and of data that are not right nothing is told but that.
func TestOddChangesAreAnswered(t *testing.T) {
	r := rand.New(rand.NewSource(66))
	count := map[bool]int{}
	for range 2000 {
		s, l := randomData(r, 6)
		if r.Intn(2) == 0 {
			s = randomSchema(r)
		}
		c := randomChange(r, append(fittingTuples(s, "x", "y"), impl.Tuple{}), l)
		if r.Intn(3) == 0 {
			spoilSomewhere(r, s)
		}
		right := impl.SchemaOk(s) && impl.TuplesOk(l)
		for _, u := range l {
			right = right && impl.Fits(s, u)
		}
		count[right]++
		next, code := impl.Applied(s, l, c)
		more, less, told := impl.Delta(s, l, c)
		if (code == impl.CgWrong) == right || code != told || !right && len(next)+len(more)+len(less) > 0 {
			t.Fatalf("%v, %v, %v, %d of %v and %v", next, more, less, code, s, l)
		}
		if at, ok := impl.TuplesAt(s, []impl.Change{c}, 1); ok && (len(at) != 1 || !impl.SchemaOk(s)) {
			t.Fatalf("%v of %v", at, s)
		}
	}
	if count[true] < 300 || count[false] < 300 {
		t.Error("too few of a sort", count)
	}
}
