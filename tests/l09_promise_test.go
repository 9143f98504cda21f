package tests

import (
	"math"
	"math/rand"
	"slices"
	"strconv"
	"testing"

	"loop.example/g00297/impl"
)

// What the document promises of stores, asked of many disks and acts.

func storeSchemas(t *testing.T) [][]impl.Type {
	t.Helper()
	var list [][]impl.Type
	for _, text := range []string{sharing, plain, small, less, "", "type doc\nviewer = this(doc,user)\ntype user\n", "type tuples\ntuples = this(type)\ntype type\n"} {
		list = append(list, schemaOf(t, text))
	}
	return list
}

// storeChanges are of few tuples, so that changes meet; not all of them fit.
func storeChanges(t *testing.T) []impl.Change {
	t.Helper()
	var list []impl.Change
	for _, text := range []string{"doc:a#viewer@user:x", "doc:a#viewer@user:y", "doc:b#viewer@user:x", "doc:a#viewer@group:g#member", "doc:a#owner@user:x", "group:g#member@user:x", "doc:a#viewer@doc:a", "tuples:a#tuples@type:b"} {
		list = append(list, changeOf(t, "add "+text), changeOf(t, "drop "+text))
	}
	return list
}

// storeMaker makes random stores and acts.
type storeMaker struct {
	r       *rand.Rand
	schemas [][]impl.Type
	changes []impl.Change
}

func (m storeMaker) change() impl.Change { return m.changes[m.r.Intn(len(m.changes))] }

func (m storeMaker) schema() []impl.Type { return copySchema(m.schemas[m.r.Intn(len(m.schemas))]) }

// log answers frames that come next, most times, and bytes that are none behind them now and then.
func (m storeMaker) log(number int64) string {
	log := ""
	for range m.r.Intn(5) {
		n := number + 1
		if m.r.Intn(5) == 0 {
			n += int64(m.r.Intn(4)) - 2
		}
		text := strconv.FormatInt(n, 10) + "\n" + impl.ChangeText(m.change())
		switch m.r.Intn(25) {
		case 0:
			text = "0" + text
		case 1:
			text += " "
		}
		log += frame(text)
		number = max(number, n)
	}
	switch m.r.Intn(6) {
	case 0:
		log += frame("1")[:m.r.Intn(9)]
	case 1:
		log = log[:m.r.Intn(len(log)+1)]
	}
	return log
}

func (m storeMaker) files() []impl.File {
	v := seen{schema: m.schema(), number: []int64{0, 3, 999999998, 999999999, 1000000000}[m.r.Intn(5)]}
	for _, c := range m.changes {
		if m.r.Intn(3) == 0 {
			v.tuples = changedByWords(v.schema, v.tuples, c)
		}
	}
	base := frame(baseText(v))
	switch m.r.Intn(20) {
	case 0:
		base = base[:m.r.Intn(len(base))]
	case 1:
		base += base
	case 2:
		v.number = 1000000001
		base = frame(baseText(v))
	}
	files := []impl.File{{Name: "base", Data: base}}
	if m.r.Intn(3) == 0 {
		files = append(files, impl.File{Name: "base.new", Data: base})
	}
	if m.r.Intn(4) > 0 {
		files = append(files, impl.File{Name: "log", Data: m.log(v.number)})
	}
	if m.r.Intn(8) == 0 {
		files = append(files, manyFiles(impl.MaxFiles-len(files)-m.r.Intn(2), "")...)
		slices.SortFunc(files, func(a, b impl.File) int { return slices.Compare([]byte(a.Name), []byte(b.Name)) })
	}
	if m.r.Intn(8) == 0 {
		files = files[1:]
	}
	return files
}

// disk has some of its files, or more to them, not synced.
func (m storeMaker) disk(t *testing.T) impl.Disk {
	t.Helper()
	var ops []impl.DOp
	safe := m.files()
	live := safe
	try := func(op impl.DOp) {
		if next, code := doneByWords(live, op); code == 0 && m.r.Intn(3) == 0 {
			live = next
			ops = append(ops, op)
		}
	}
	try(remove("base"))
	try(put("base", frame(baseText(seen{schema: m.schema()}))))
	try(remove("log"))
	try(put("log", m.log(0)))
	try(put("log", m.log(3)))
	try(rename("base.new", "base"))
	if m.r.Intn(10) == 0 {
		ops = append(ops, manyOps(impl.MaxOps-len(ops)-m.r.Intn(3))...)
		if len(live) == impl.MaxFiles {
			ops = nil
		}
	}
	return diskOf(t, safe, ops...)
}

func (m storeMaker) act(ops int) impl.Act {
	a := impl.Act{Kind: int64(1 + m.r.Intn(6)), Power: int64(m.r.Intn(12)) - 2}
	switch a.Kind {
	case impl.AcNew, impl.AcMove:
		a.Schema = m.schema()
		if m.r.Intn(8) == 0 {
			a.Schema = onDocs(relation("viewer", rel("none")))
		}
	case impl.AcLog:
		a.Change, a.Sync = m.change(), m.r.Intn(2) == 0
		if m.r.Intn(8) == 0 {
			a.Change = impl.Change{Kind: int64(m.r.Intn(4)), Tuple: impl.Tuple{Rel: "viewer"}}
		}
	case impl.AcCrash:
		a.Torn = []int64{0, 1, 8, 20, math.MaxInt64}[m.r.Intn(5)]
		for at := range int64(ops) {
			if m.r.Intn(2) == 0 {
				a.Keep = append(a.Keep, at)
			}
		}
		switch m.r.Intn(16) {
		case 0:
			a.Keep = append(a.Keep, int64(ops))
		case 1:
			a.Torn = -1
		}
	}
	if m.r.Intn(30) == 0 {
		a.Kind = int64(m.r.Intn(12)) - 2
	}
	return a
}

func TestActsOfManyStores(t *testing.T) {
	m := storeMaker{rand.New(rand.NewSource(92)), storeSchemas(t), storeChanges(t)}
	count, views := map[int64]int{}, map[int64]int{}
	for range 12000 {
		d := m.disk(t)
		v, code := viewByWords(d.Live)
		wantView(t, "many", d, code, impl.SchemaText(v.schema), tuplesText(v.tuples), v.number)
		views[code]++
		a := m.act(len(d.Ops))
		want, code := actByWords(d, a)
		wantAct(t, "many", d, a, code, want)
		count[code]++
		if t.Failed() {
			t.Fatalf("%v of %s", a, shortFiles(d.Live))
		}
	}
	for _, code := range []int64{impl.StOk, impl.StBad, impl.StForm, impl.StFull, impl.StPower, impl.StTorn, impl.StNone, impl.StRefuse} {
		if count[code] < 50 {
			t.Error("too few of a code", count)
		}
	}
	for _, code := range []int64{impl.StOk, impl.StBad, impl.StNone} {
		if views[code] < 50 {
			t.Error("too few of a code of views", views)
		}
	}
}

// history holds a store against what a beginning of its changes and moves made.
type history struct {
	disk impl.Disk
	// made has at each place what so many changes and moves made; the last place is what is seen.
	made []seen
	// sure is the place behind which nothing was promised.
	sure int
}

func begun(t *testing.T, s []impl.Type) *history {
	t.Helper()
	d, code := impl.StoreDo(impl.Disk{}, impl.Act{Kind: impl.AcNew, Schema: s, Power: -1})
	if code != impl.StOk {
		t.Fatal("new", code)
	}
	return &history{disk: d, made: []seen{{schema: s}}}
}

func (h *history) copied() *history {
	return &history{disk: h.disk, made: slices.Clone(h.made), sure: h.sure}
}

// placeOf asks that what is seen on a disk is what was made at a place, and answers that.
func (h *history) placeOf(t *testing.T, d impl.Disk) int {
	t.Helper()
	s, l, n, code := impl.StoreView(d)
	if code != impl.StOk || n < 0 || n >= int64(len(h.made)) {
		t.Fatalf("%d and the number %d, of %d places", code, n, len(h.made))
	}
	if want := h.made[n]; impl.SchemaText(s) != impl.SchemaText(want.schema) || !slices.Equal(l, want.tuples) {
		t.Fatalf("at %d: %s, not %s, of\n%s, not\n%s", n, tuplesText(l), tuplesText(want.tuples), impl.SchemaText(s), impl.SchemaText(want.schema))
	}
	return int(n)
}

// lost asks what a loss of power leaves, and answers the place of it.
func (h *history) lost(t *testing.T, keep []int64, torn int64) int {
	t.Helper()
	left, ok := impl.Crash(h.disk, keep, torn)
	if !ok {
		t.Fatal("no crash", keep, torn)
	}
	at := h.placeOf(t, left)
	if at < h.sure {
		t.Fatalf("at %d, though %d were promised: keep %v of %d, torn %d", at, h.sure, keep, len(h.disk.Ops), torn)
	}
	// Opened, it is the same, and takes the next change.
	opened, code := impl.StoreDo(h.disk, impl.Act{Kind: impl.AcCrash, Keep: keep, Torn: torn, Power: -1})
	if code != impl.StOk || h.placeOf(t, opened) != at {
		t.Fatal("opened it is another one", code)
	}
	next := impl.Change{Kind: impl.ChDrop, Tuple: tupleOf(t, "a:b#c@d:e")}
	if _, code := impl.StoreDo(opened, impl.Act{Kind: impl.AcLog, Change: next, Power: -1}); code != impl.StOk {
		t.Fatal("opened it takes no change", code)
	}
	return at
}

// do does an act, and tells its code; what it made and promised comes to the history.
func (h *history) do(t *testing.T, a impl.Act) int64 {
	t.Helper()
	d, code := impl.StoreDo(h.disk, a)
	if !impl.DiskOk(d) {
		t.Fatal("not a right disk")
	}
	done := code == impl.StOk
	if !done && code != impl.StPower {
		// Nothing but its form refuses a crash of a store that was made rightly.
		if !sameDisk(d, h.disk) || a.Kind == impl.AcCrash && code != impl.StForm {
			t.Fatalf("act %d is refused with %d, and the disk is another one", a.Kind, code)
		}
		return code
	}
	last := h.made[len(h.made)-1]
	next := last
	switch a.Kind {
	case impl.AcLog:
		next.tuples = changedByWords(last.schema, last.tuples, a.Change)
	case impl.AcMove:
		next.schema = a.Schema
	}
	if a.Kind == impl.AcCrash {
		at := h.placeOf(t, d)
		if at < h.sure {
			t.Fatalf("a crash leaves %d, though %d were promised", at, h.sure)
		}
		h.disk, h.made, h.sure = d, h.made[:at+1], at
		return code
	}
	old := len(h.made) - 1
	h.made = append(slices.Clone(h.made), next)
	at := h.placeOf(t, d)
	if at < old || done && (a.Kind == impl.AcLog || a.Kind == impl.AcMove) != (at > old) {
		t.Fatalf("act %d with power %d leads from %d to %d", a.Kind, a.Power, old, at)
	}
	h.disk, h.made = d, h.made[:at+1]
	saves := a.Kind == impl.AcSave || a.Kind == impl.AcMove
	switch {
	case done && (saves || a.Sync):
		h.sure = at
	case saves && a.Power > 0:
		// The first step of a save is a Sync.
		h.sure = old
	}
	return code
}

// eachLoss asks every choice of ops, and each torn at some places.
func (h *history) eachLoss(t *testing.T) map[int]bool {
	t.Helper()
	left := map[int]bool{}
	ops := h.disk.Ops
	for set := range 1 << len(ops) {
		keep := chosen(len(ops), set)
		torns := []int64{math.MaxInt64}
		if len(keep) > 0 {
			long := int64(len(ops[keep[len(keep)-1]].Data))
			torns = []int64{0, 1, 7, 8, long / 2, long - 1, long, long + 1}
		}
		for _, torn := range torns {
			left[h.lost(t, keep, max(torn, 0))] = true
		}
	}
	return left
}

// Each act with a power of 0, 1, 2 and on until it is done, then each choice of ops that are kept.
func TestBehindAnyLossOfPower(t *testing.T) {
	s := schemaOf(t, small)
	add := func(text string, sync bool) impl.Act {
		return impl.Act{Kind: impl.AcLog, Change: changeOf(t, "add "+text), Sync: sync, Power: -1}
	}
	ahead := map[string][]impl.Act{
		"nothing logged":   nil,
		"one synced":       {add("doc:a#viewer@user:x", true)},
		"two not synced":   {add("doc:a#viewer@user:x", false), add("doc:a#owner@user:y", false)},
		"some synced":      {add("doc:a#viewer@user:x", false), add("doc:a#viewer@user:y", true), add("doc:a#parent@user:y", false), add("doc:b#viewer@user:x", false)},
		"a base.new lies":  {add("doc:a#viewer@user:x", false), {Kind: impl.AcSave, Power: 2}, add("doc:b#viewer@user:x", false)},
		"the base is new":  {add("doc:a#viewer@user:x", false), {Kind: impl.AcSave, Power: 3}, add("doc:b#viewer@user:x", false)},
		"the log is gone":  {add("doc:a#viewer@user:x", false), {Kind: impl.AcSave, Power: 5}, add("doc:b#viewer@user:x", false)},
		"moved, not whole": {add("doc:a#viewer@user:x", false), {Kind: impl.AcMove, Schema: schemaOf(t, less), Power: 3}, add("doc:b#viewer@user:x", false)},
		"moved":            {add("doc:a#viewer@user:x", false), {Kind: impl.AcMove, Schema: schemaOf(t, plain), Power: -1}, add("doc:b#viewer@user:x", false)},
		"torn":             {add("doc:a#viewer@user:x", true), add("doc:a#viewer@user:y", false), {Kind: impl.AcCrash, Keep: []int64{0}, Torn: 9, Power: 0}},
		"torn, half saved": {add("doc:a#viewer@user:x", true), add("doc:a#viewer@user:y", false), {Kind: impl.AcCrash, Keep: []int64{0}, Torn: 9, Power: 5}, add("doc:b#viewer@user:x", false)},
		"the second alone": {add("doc:a#viewer@user:x", false), add("doc:a#viewer@user:y", false), {Kind: impl.AcCrash, Keep: []int64{1}, Torn: 999, Power: 2}},
	}
	acts := map[string]impl.Act{
		"log": add("doc:c#viewer@user:x", false), "log, synced": add("doc:c#viewer@user:x", true), "a change that is refused": add("doc:c#viewer@doc:x", true),
		"save": {Kind: impl.AcSave}, "open": {Kind: impl.AcOpen}, "move": {Kind: impl.AcMove, Schema: schemaOf(t, plain)}, "move to the same": {Kind: impl.AcMove, Schema: s},
		"crash, none kept": {Kind: impl.AcCrash}, "crash, one torn": {Kind: impl.AcCrash, Keep: []int64{0}, Torn: 10},
	}
	several := 0
	for what, list := range ahead {
		begin := begun(t, s)
		for _, a := range list {
			if code := begin.do(t, a); code != impl.StOk && code != impl.StPower {
				t.Fatal(what, code)
			}
		}
		begin.eachLoss(t)
		for _, a := range acts {
			for power := int64(0); ; power++ {
				h := begin.copied()
				a.Power = power
				code := h.do(t, a)
				if len(h.eachLoss(t)) > 1 {
					several++
				}
				if code != impl.StPower {
					break
				}
				if power > 12 {
					t.Fatal(what, "is never done")
				}
			}
		}
	}
	if several < 50 {
		t.Error("too few losses that leave one thing or another", several)
	}
}

// A loss of power in the open behind a loss of power, and so on.
func TestLossBehindLoss(t *testing.T) {
	s := schemaOf(t, small)
	begin := begun(t, s)
	for _, text := range []string{"add doc:a#viewer@user:x", "add doc:a#viewer@user:y", "add doc:a#owner@user:x"} {
		begin.do(t, impl.Act{Kind: impl.AcLog, Change: changeOf(t, text), Sync: text == "add doc:a#viewer@user:x", Power: -1})
	}
	var fall func(h *history, deep int)
	fall = func(h *history, deep int) {
		for set := range 1 << len(h.disk.Ops) {
			for _, torn := range []int64{9, math.MaxInt64} {
				for power := int64(0); power < 6; power++ {
					next := h.copied()
					code := next.do(t, impl.Act{Kind: impl.AcCrash, Keep: chosen(len(h.disk.Ops), set), Torn: torn, Power: power})
					if code == impl.StPower && deep > 0 {
						fall(next, deep-1)
					}
				}
			}
		}
	}
	fall(begin, 2)
}

func TestHistoriesOfManyActs(t *testing.T) {
	r := rand.New(rand.NewSource(93))
	m := storeMaker{r, storeSchemas(t), storeChanges(t)}
	count := map[int64]int{}
	fewer := 0
	for range 250 {
		h := begun(t, m.schema())
		for range 30 {
			a := m.act(len(h.disk.Ops))
			if r.Intn(3) == 0 {
				a.Power = -1
			}
			if a.Kind == impl.AcCrash && r.Intn(2) == 0 || a.Kind == impl.AcOpen {
				a = impl.Act{Kind: impl.AcLog, Change: m.change(), Sync: r.Intn(4) == 0, Power: -1}
			}
			count[h.do(t, a)]++
			for range 3 {
				keep := chosen(len(h.disk.Ops), r.Intn(1<<min(len(h.disk.Ops), 20)))
				if at := h.lost(t, keep, int64(r.Intn(60))); at < len(h.made)-1 {
					fewer++
				}
			}
		}
	}
	for _, code := range []int64{impl.StOk, impl.StForm, impl.StPower, impl.StTorn, impl.StRefuse} {
		if count[code] < 30 {
			t.Error("too few of a code", count)
		}
	}
	if fewer < 500 {
		t.Error("too few losses that take something", fewer)
	}
}

func TestPlaysInTwoPieces(t *testing.T) {
	r := rand.New(rand.NewSource(94))
	m := storeMaker{r, storeSchemas(t), storeChanges(t)}
	for range 200 {
		d := m.disk(t)
		var list []impl.Act
		for range r.Intn(12) {
			list = append(list, m.act(r.Intn(3)))
		}
		whole, codes := impl.StorePlay(d, list)
		if len(codes) != len(list) {
			t.Fatal(len(codes), "codes of", len(list))
		}
		now := d
		for i, a := range list {
			next, code := actByWords(now, a)
			if code != codes[i] {
				t.Fatalf("act %d tells %d, not %d", i, codes[i], code)
			}
			now = next
		}
		if !sameDisk(now, whole) {
			t.Fatalf("%s, not %s", shortFiles(whole.Live), shortFiles(now.Live))
		}
		at := r.Intn(len(list) + 1)
		half, one := impl.StorePlay(d, list[:at])
		rest, two := impl.StorePlay(half, list[at:])
		if !sameDisk(rest, whole) || !slices.Equal(append(one, two...), codes) {
			t.Fatal("in two pieces it is another one")
		}
		wantApart(t, "plays", d, whole, codes, half, rest, two)
	}
}

func TestStoresLeaveArgumentsAlone(t *testing.T) {
	r := rand.New(rand.NewSource(95))
	m := storeMaker{r, storeSchemas(t), storeChanges(t)}
	for range 400 {
		d := m.disk(t)
		a := m.act(len(d.Ops))
		old := impl.Disk{Live: slices.Clone(d.Live), Safe: slices.Clone(d.Safe), Ops: slices.Clone(d.Ops)}
		oldSchema, oldKeep := copySchema(a.Schema), slices.Clone(a.Keep)
		var kept [5]func() bool
		d.Live, kept[0] = roomy(d.Live, impl.File{Name: "room"})
		d.Safe, kept[1] = roomy(d.Safe, impl.File{Name: "room"})
		d.Ops, kept[2] = roomy(d.Ops, impl.DOp{Name: "room"})
		a.Schema, kept[3] = roomy(a.Schema, typ("zoo", relation("a", this(user()))))
		a.Keep, kept[4] = roomy(a.Keep, 77)
		acts, actsKept := roomy([]impl.Act{a}, impl.Act{Kind: 77})
		ask := func() []any {
			s, l, n, code := impl.StoreView(d)
			done, told := impl.StoreDo(d, a)
			played, codes := impl.StorePlay(d, acts)
			return []any{s, l, n, code, done, told, played, codes}
		}
		answers := ask()
		wantApart(t, "stores", append(answers, d, a.Schema, a.Keep)...)
		if !same(answers, ask()) {
			t.Fatal("another answer to the same arguments")
		}
		if !sameDisk(d, old) || !same(a.Schema, oldSchema) && len(oldSchema) > 0 || !slices.Equal(a.Keep, oldKeep) || !actsKept() || slices.ContainsFunc(kept[:], func(is func() bool) bool { return !is() }) {
			t.Fatal("an argument or the room behind it was written into")
		}
	}
}

// What is asked of a store is what was logged, up to a log of many changes.
func TestALongLog(t *testing.T) {
	h := begun(t, schemaOf(t, small))
	changes := storeChanges(t)
	for i := range 300 {
		if code := h.do(t, impl.Act{Kind: impl.AcLog, Change: changes[i*7%len(changes)], Sync: i%150 == 149, Power: -1}); code != impl.StOk {
			t.Fatal(i, code)
		}
	}
	if at := h.lost(t, nil, 0); at != 300 {
		t.Error(at)
	}
	h.do(t, impl.Act{Kind: impl.AcLog, Change: changes[0], Power: -1})
	if at := h.lost(t, []int64{0}, 3); at != 300 {
		t.Error(at)
	}
	if at := h.lost(t, []int64{0}, 300); at != 301 {
		t.Error(at)
	}
}
