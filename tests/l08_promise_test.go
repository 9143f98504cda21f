package tests

import (
	"math"
	"math/rand"
	"slices"
	"sort"
	"strings"
	"testing"

	"loop.example/g00297/impl"
)

// What the document promises of disks, asked of many of them.

// doneByWords goes by the words of the document, with no limit of ops.
func doneByWords(files []impl.File, op impl.DOp) ([]impl.File, int64) {
	nameOk := func(name string) bool { return len(name) > 0 && len(name) < 101 }
	if op.Kind < 1 || op.Kind > 3 || !nameOk(op.Name) || op.Kind == 2 && !nameOk(op.To) || op.Kind != 2 && op.To != "" || op.Kind != 1 && op.Data != "" {
		return files, 2
	}
	at := slices.IndexFunc(files, func(f impl.File) bool { return f.Name == op.Name })
	if op.Kind != 1 && at < 0 {
		return files, 3
	}
	next := slices.Clone(files)
	switch {
	case op.Kind == 1 && at < 0:
		next = append(next, impl.File{Name: op.Name, Data: op.Data})
	case op.Kind == 1:
		next[at].Data += op.Data
	case op.Kind == 3:
		next = slices.Delete(next, at, at+1)
	case op.Name != op.To:
		next[at].Name = op.To
		for i := range next {
			if i != at && next[i].Name == op.To {
				next = slices.Delete(next, i, i+1)
				break
			}
		}
	}
	sort.Slice(next, func(i, j int) bool { return next[i].Name < next[j].Name })
	if tooMuch(next) {
		return files, 4
	}
	return next, 0
}

func tooMuch(files []impl.File) bool {
	size := 0
	for _, f := range files {
		size += len(f.Data)
	}
	return len(files) > 60 || size > 200000
}

// randomOp is of its form and finds its file, most times; files are few, so that ops meet.
func randomOp(r *rand.Rand, live []impl.File) impl.DOp {
	words := []string{"a", "b", "c", "a.new", "b.new", "d"}
	name := func() string {
		if len(live) > 0 && r.Intn(4) > 0 {
			return live[r.Intn(len(live))].Name
		}
		return words[r.Intn(len(words))]
	}
	op := impl.DOp{Kind: []int64{impl.DkAppend, impl.DkAppend, impl.DkRename, impl.DkRemove}[r.Intn(4)], Name: name()}
	switch op.Kind {
	case impl.DkAppend:
		op.Data = strings.Repeat(string(rune('0'+r.Intn(10))), r.Intn(4))
		if r.Intn(4) == 0 {
			op.Data = bytesLong(r.Intn(impl.MaxBytes * 3 / 4))
		}
	case impl.DkRename:
		op.To = words[r.Intn(len(words))]
	}
	switch r.Intn(40) {
	case 0:
		op.Kind = int64(r.Intn(6)) - 1
	case 1:
		op.Name = bytesLong([]int{0, 100, 101}[r.Intn(3)])
	case 2:
		op.To = bytesLong([]int{0, 1, 100, 101}[r.Intn(4)])
	case 3:
		op.Data = "x"
	}
	return op
}

// randomDisk has up to most ops that are not synced; now and then it has nearly as many files as there may be.
func randomDisk(r *rand.Rand, most int) impl.Disk {
	var d impl.Disk
	if r.Intn(5) == 0 {
		d.Safe = manyFiles(impl.MaxFiles-3+r.Intn(4), "")
	}
	for range r.Intn(12) {
		if next, code := doneByWords(d.Safe, randomOp(r, d.Safe)); code == 0 {
			d.Safe = next
		}
	}
	d.Live = slices.Clone(d.Safe)
	for range r.Intn(most + 1) {
		op := randomOp(r, d.Live)
		if next, code := doneByWords(d.Live, op); code == 0 {
			d.Live = slices.Clone(next)
			d.Ops = append(d.Ops, op)
		}
	}
	return d
}

func places(n int) []int64 {
	var l []int64
	for i := range n {
		l = append(l, int64(i))
	}
	return l
}

// chosen answers the places of the bits of set, of n.
func chosen(n int, set int) []int64 {
	var l []int64
	for i := range n {
		if set>>i%2 == 1 {
			l = append(l, int64(i))
		}
	}
	return l
}

func TestDoOfManyDisks(t *testing.T) {
	r := rand.New(rand.NewSource(81))
	count := map[int64]int{}
	for range 3000 {
		d := randomDisk(r, 12)
		if !impl.DiskOk(d) {
			t.Fatalf("not right: %s, %d ops, %s", shortFiles(d.Safe), len(d.Ops), shortFiles(d.Live))
		}
		op := randomOp(r, d.Live)
		live, code := doneByWords(d.Live, op)
		wantDo(t, "many", d, op, code, live)
		count[code]++
	}
	for _, code := range []int64{impl.DkOk, impl.DkForm, impl.DkNone, impl.DkFull} {
		if count[code] < 50 {
			t.Error("too few of a code", count)
		}
	}
}

// What is done is seen.
func TestWhatIsDoneIsSeen(t *testing.T) {
	r := rand.New(rand.NewSource(82))
	done := 0
	for range 300 {
		d := randomDisk(r, 4)
		live := d.Live
		for range 12 {
			op := randomOp(r, live)
			next, code := impl.Do(d, op)
			if code != impl.DkOk {
				continue
			}
			done++
			was, there := impl.ReadFile(d, op.Name)
			switch data, ok := impl.ReadFile(next, op.Name); {
			case op.Kind == impl.DkAppend && (!ok || data != was+op.Data):
				t.Fatalf("%v: %.20q", op, data)
			case op.Kind == impl.DkRemove && (!there || ok):
				t.Fatalf("%v: it is still there", op)
			case op.Kind == impl.DkRename && (!there || ok != (op.Name == op.To)):
				t.Fatalf("%v: it is still there", op)
			}
			if data, ok := impl.ReadFile(next, op.To); op.Kind == impl.DkRename && (!ok || data != was) {
				t.Fatalf("%v: %.20q", op, data)
			}
			live, _ = doneByWords(live, op)
			if !slices.Equal(next.Live, live) || !slices.Equal(next.Safe, d.Safe) {
				t.Fatalf("%v leaves %s", op, shortFiles(next.Live))
			}
			d = next
		}
	}
	if done < 1000 {
		t.Error("too few are done", done)
	}
}

func TestAllKeptIsWhatWasSeenAndNoneWhatWasSynced(t *testing.T) {
	r := rand.New(rand.NewSource(83))
	for range 1000 {
		d := randomDisk(r, 30)
		left, ok := impl.Crash(d, places(len(d.Ops)), math.MaxInt64)
		if !ok || !sameDisk(left, impl.Disk{Live: d.Live, Safe: d.Live}) {
			t.Fatalf("all kept: %v, %s, not %s", ok, shortFiles(left.Live), shortFiles(d.Live))
		}
		left, ok = impl.Crash(d, nil, int64(r.Intn(3)))
		if !ok || !sameDisk(left, impl.Disk{Live: d.Safe, Safe: d.Safe}) {
			t.Fatalf("none kept: %v, %s, not %s", ok, shortFiles(left.Live), shortFiles(d.Safe))
		}
		synced := impl.Sync(d)
		if left, ok := impl.Crash(synced, nil, 0); !ok || !sameDisk(left, synced) || !slices.Equal(synced.Live, d.Live) {
			t.Fatal("synced, and lost then")
		}
	}
}

// crashedByWords asks limits at the end alone.
func crashedByWords(d impl.Disk, keep []int64, torn int64) ([]impl.File, bool) {
	files := slices.Clone(d.Safe)
	for i, at := range keep {
		op := d.Ops[at]
		if i == len(keep)-1 && torn < int64(len(op.Data)) {
			op.Data = op.Data[:torn]
		}
		at := slices.IndexFunc(files, func(f impl.File) bool { return f.Name == op.Name })
		if op.Kind == impl.DkAppend && at < 0 {
			files = append(files, impl.File{Name: op.Name, Data: op.Data})
		} else if op.Kind == impl.DkAppend {
			files[at].Data += op.Data
		} else if at >= 0 {
			file := files[at]
			files = slices.Delete(files, at, at+1)
			if op.Kind == impl.DkRename {
				files = slices.DeleteFunc(files, func(f impl.File) bool { return f.Name == op.To })
				files = append(files, impl.File{Name: op.To, Data: file.Data})
			}
		}
	}
	sort.Slice(files, func(i, j int) bool { return files[i].Name < files[j].Name })
	return files, !tooMuch(files)
}

// putsOf answers the places of all that is put: with them alone files grow beyond what they were.
func putsOf(ops []impl.DOp) []int64 {
	return slices.DeleteFunc(places(len(ops)), func(at int64) bool { return ops[at].Kind != impl.DkAppend })
}

func TestCrashesOfManyDisks(t *testing.T) {
	r := rand.New(rand.NewSource(84))
	count := map[bool]int{}
	for range 3000 {
		d := randomDisk(r, 14)
		keep := chosen(len(d.Ops), r.Intn(1<<14))
		if r.Intn(3) == 0 {
			keep = putsOf(d.Ops)
		}
		torn := []int64{0, 1, 2, int64(r.Intn(impl.MaxBytes)), math.MaxInt64}[r.Intn(5)]
		files, fits := crashedByWords(d, keep, torn)
		left, ok := impl.Crash(d, keep, torn)
		if ok != fits || ok && !sameDisk(left, impl.Disk{Live: files, Safe: files}) || !ok && !zeroDisk(left) {
			t.Fatalf("%v of %d and torn %d: %v, %s, not %v, %s", keep, len(d.Ops), torn, ok, shortFiles(left.Live), fits, shortFiles(files))
		}
		if ok && !impl.DiskOk(left) {
			t.Fatal("it leaves a disk that is not right")
		}
		wantApart(t, "a crash", d, keep, left)
		count[ok]++
	}
	if count[true] < 1000 || count[false] < 20 {
		t.Error("too few of a sort", count)
	}
}

// A file that is replaced on a synced disk is the old one or the new one, whichever ops are kept and wherever the last one is torn.
func TestAReplacedFileIsTheOldOneOrTheNewOne(t *testing.T) {
	r := rand.New(rand.NewSource(85))
	count := map[string]int{}
	for range 500 {
		d := impl.Sync(randomDisk(r, 10))
		name := []string{"a", "b", "c", "d"}[r.Intn(4)]
		if _, there := impl.ReadFile(d, name+".new"); there {
			continue
		}
		data := strings.Repeat("new", r.Intn(4))
		next, code := impl.Replace(d, name, data)
		if code != impl.DkOk {
			continue
		}
		old, was := impl.ReadFile(d, name)
		for set := range 1 << len(next.Ops) {
			for torn := range int64(len(data)) + 2 {
				left, ok := impl.Crash(next, chosen(len(next.Ops), set), torn)
				if !ok {
					t.Fatal("no crash")
				}
				got, there := impl.ReadFile(left, name)
				switch {
				case there && got == data && set == 1<<len(next.Ops)-1:
					count["new"]++
				case there == was && got == old && set != 1<<len(next.Ops)-1:
					count["old"]++
				default:
					t.Fatalf("%q is %q, %v, and was %q, %v: ops %b, torn %d", name, got, there, old, was, set, torn)
				}
				others := slices.DeleteFunc(left.Live, func(f impl.File) bool { return f.Name == name || f.Name == name+".new" })
				if !slices.Equal(others, slices.DeleteFunc(slices.Clone(d.Live), func(f impl.File) bool { return f.Name == name })) {
					t.Fatal("another file has changed")
				}
			}
		}
	}
	if count["old"] < 500 || count["new"] < 300 {
		t.Error("too few of a sort", count)
	}
}

func TestReplaceIsThreeTimesDo(t *testing.T) {
	r := rand.New(rand.NewSource(86))
	count := map[int64]int{}
	for range 1500 {
		d := randomDisk(r, 10)
		name := []string{"a", "b", "c", "d", "", bytesLong(96), bytesLong(97)}[r.Intn(7)]
		data := bytesLong(r.Intn(3) * r.Intn(impl.MaxBytes/2))
		want, code := d, int64(impl.DkOk)
		var ops []impl.DOp
		if slices.ContainsFunc(d.Live, func(f impl.File) bool { return f.Name == name+".new" }) {
			ops = append(ops, remove(name+".new"))
		}
		for _, op := range append(ops, put(name+".new", data), rename(name+".new", name)) {
			live, told := doneByWords(want.Live, op)
			if told != impl.DkOk {
				want, code = d, told
				break
			}
			want = impl.Disk{Live: live, Safe: want.Safe, Ops: append(slices.Clone(want.Ops), op)}
		}
		got, told := impl.Replace(d, name, data)
		if told != code || !sameDisk(got, want) {
			t.Fatalf("%q: %d, not %d, and %s, not %s", name, told, code, shortFiles(got.Live), shortFiles(want.Live))
		}
		wantApart(t, "replaced", d, got)
		count[code]++
	}
	if count[impl.DkOk] < 500 || count[impl.DkForm] < 100 || count[impl.DkFull] < 50 {
		t.Error("too few of a code", count)
	}
}

func TestDisksAreLeftAlone(t *testing.T) {
	r := rand.New(rand.NewSource(87))
	for range 300 {
		d := randomDisk(r, 10)
		keep := chosen(len(d.Ops), r.Intn(1<<10))
		old := impl.Disk{Live: slices.Clone(d.Live), Safe: slices.Clone(d.Safe), Ops: slices.Clone(d.Ops)}
		oldKeep := slices.Clone(keep)
		var kept [4]func() bool
		d.Live, kept[0] = roomy(d.Live, impl.File{Name: "room"})
		d.Safe, kept[1] = roomy(d.Safe, impl.File{Name: "room"})
		d.Ops, kept[2] = roomy(d.Ops, impl.DOp{Name: "room"})
		keep, kept[3] = roomy(keep, 7)
		op := randomOp(r, d.Live)
		ask := func() []any {
			done, code := impl.Do(d, op)
			left, ok := impl.Crash(d, keep, 2)
			replaced, told := impl.Replace(d, "a", "new")
			data, there := impl.ReadFile(d, "a")
			return []any{done, code, impl.Sync(d), left, ok, replaced, told, data, there, impl.DiskOk(d)}
		}
		answers := ask()
		wantApart(t, "disks", append(answers, d, keep)...)
		if !same(answers, ask()) {
			t.Fatal("another answer to the same arguments")
		}
		if !sameDisk(d, old) || !slices.Equal(keep, oldKeep) || slices.ContainsFunc(kept[:], func(is func() bool) bool { return !is() }) {
			t.Fatal("an argument or the room behind it was written into")
		}
	}
}

// Disks made of odd things: each is answered, and right just where the words say so.
func TestOddDisksAreAnswered(t *testing.T) {
	r := rand.New(rand.NewSource(88))
	count := map[bool]int{}
	for range 3000 {
		d := randomDisk(r, 6)
		spoilDisk(r, &d)
		right := rightByWords(d)
		count[right]++
		if impl.DiskOk(d) != right {
			t.Fatalf("right: %v; %s, %v, %s", !right, shortFiles(d.Safe), d.Ops, shortFiles(d.Live))
		}
		if _, code := impl.Do(d, put("a", "")); (code == impl.DkDisk) == right {
			t.Fatal(code)
		}
		if left, ok := impl.Crash(d, nil, 0); ok != right || !right && !zeroDisk(left) {
			t.Fatal("a crash", ok)
		}
	}
	if count[true] < 500 || count[false] < 500 {
		t.Error("too few of a sort", count)
	}
}

func rightByWords(d impl.Disk) bool {
	for _, files := range [][]impl.File{d.Live, d.Safe} {
		for i, f := range files {
			if f.Name == "" || len(f.Name) > 100 || i > 0 && files[i-1].Name >= f.Name {
				return false
			}
		}
		if tooMuch(files) {
			return false
		}
	}
	files := d.Safe
	for _, op := range d.Ops {
		next, code := doneByWords(files, op)
		if code != 0 {
			return false
		}
		files = next
	}
	return len(d.Ops) <= 200 && slices.Equal(files, d.Live)
}

// spoilDisk changes a thing or leaves it.
func spoilDisk(r *rand.Rand, d *impl.Disk) {
	lists := []*[]impl.File{&d.Live, &d.Safe}
	files := lists[r.Intn(2)]
	switch r.Intn(8) {
	case 0:
		*files = append(*files, impl.File{Name: []string{"", "a", "z", bytesLong(100), bytesLong(101)}[r.Intn(5)]})
	case 1:
		if len(*files) > 0 {
			(*files)[r.Intn(len(*files))].Data += "?"
		}
	case 2:
		if len(*files) > 1 {
			(*files)[0], (*files)[1] = (*files)[1], (*files)[0]
		}
	case 3:
		if len(d.Ops) > 0 {
			d.Ops[r.Intn(len(d.Ops))] = randomOp(r, d.Live)
		}
	case 4:
		d.Ops = append(d.Ops, randomOp(r, d.Live))
	case 5:
		if len(d.Ops) > 0 {
			d.Ops = d.Ops[1:]
		}
	}
}
