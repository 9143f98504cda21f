package tests

import (
	"fmt"
	"math"
	"slices"
	"strings"
	"testing"

	"loop.example/g00297/impl"
)

// filesOf reads files, parted by blanks: a name, = and the data.
func filesOf(text string) []impl.File {
	var files []impl.File
	for _, word := range strings.Fields(text) {
		name, data, _ := strings.Cut(word, "=")
		files = append(files, impl.File{Name: name, Data: data})
	}
	return files
}

func filesText(files []impl.File) string {
	var words []string
	for _, f := range files {
		words = append(words, f.Name+"="+f.Data)
	}
	return strings.Join(words, " ")
}

// put, rename and remove are ops of their form.
func put(name string, data string) impl.DOp {
	return impl.DOp{Kind: impl.DkAppend, Name: name, Data: data}
}

func rename(name string, to string) impl.DOp {
	return impl.DOp{Kind: impl.DkRename, Name: name, To: to}
}

func remove(name string) impl.DOp { return impl.DOp{Kind: impl.DkRemove, Name: name} }

// opsOf reads ops, parted by commas: put NAME DATA, rename NAME TO, remove NAME.
func opsOf(t *testing.T, texts string) []impl.DOp {
	t.Helper()
	var ops []impl.DOp
	for _, text := range strings.Split(texts, ", ") {
		words := append(strings.Fields(text), "", "")
		switch words[0] {
		case "put":
			ops = append(ops, put(words[1], words[2]))
		case "rename":
			ops = append(ops, rename(words[1], words[2]))
		case "remove":
			ops = append(ops, remove(words[1]))
		case "":
		default:
			t.Fatalf("not an op: %q", text)
		}
	}
	return ops
}

// diskOf answers the disk with these ops done on safe; it must be right.
func diskOf(t *testing.T, safe []impl.File, ops ...impl.DOp) impl.Disk {
	t.Helper()
	live := safe
	for _, op := range ops {
		next, code := doneByWords(live, op)
		if code != impl.DkOk {
			t.Fatalf("%v tells %d", op, code)
		}
		live = next
	}
	d := impl.Disk{Live: slices.Clone(live), Safe: slices.Clone(safe), Ops: slices.Clone(ops)}
	if !impl.DiskOk(d) {
		t.Fatalf("not right: %s, %d ops, %s", shortFiles(d.Safe), len(ops), shortFiles(d.Live))
	}
	return d
}

// shortFiles tells lengths, as data may be long.
func shortFiles(files []impl.File) string {
	var words []string
	for _, f := range files {
		words = append(words, fmt.Sprintf("%.10s:%d", f.Name, len(f.Data)))
	}
	return strings.Join(words, " ")
}

func manyFiles(n int, data string) []impl.File {
	var files []impl.File
	for i := range n {
		files = append(files, impl.File{Name: fmt.Sprintf("f%03d", i), Data: data})
	}
	return files
}

// manyOps are done on any disk and leave a byte more in the file z each.
func manyOps(n int) []impl.DOp { return slices.Repeat([]impl.DOp{put("z", "z")}, n) }

func bytesLong(n int) string { return strings.Repeat("x", n) }

func sameDisk(a, b impl.Disk) bool {
	return slices.Equal(a.Live, b.Live) && slices.Equal(a.Safe, b.Safe) && slices.Equal(a.Ops, b.Ops)
}

func zeroDisk(d impl.Disk) bool { return len(d.Live)+len(d.Safe)+len(d.Ops) == 0 }

// wantDo asks for this code, and for live when it is DkOk; with another one the disk must be as it was, or none when it is not right.
func wantDo(t *testing.T, what string, d impl.Disk, op impl.DOp, code int64, live []impl.File) {
	t.Helper()
	got, told := impl.Do(d, op)
	want := d
	switch code {
	case impl.DkOk:
		want = impl.Disk{Live: live, Safe: d.Safe, Ops: append(slices.Clone(d.Ops), op)}
	case impl.DkDisk:
		want = impl.Disk{}
	}
	if told != code || !sameDisk(got, want) {
		t.Errorf("%s: %d, not %d, and %s, not %s, with %d ops", what, told, code, shortFiles(got.Live), shortFiles(want.Live), len(got.Ops))
	}
	if told != impl.DkDisk && !impl.DiskOk(got) {
		t.Errorf("%s: it leaves a disk that is not right", what)
	}
	wantApart(t, what, d, got)
}

func TestNumbersOfDisks(t *testing.T) {
	if !same([]int64{60, 200000, 200}, []int64{impl.MaxFiles, impl.MaxBytes, impl.MaxOps}) {
		t.Error("limits")
	}
	if !same([]int64{1, 2, 3, 0, 1, 2, 3, 4}, []int64{impl.DkAppend, impl.DkRename, impl.DkRemove, impl.DkOk, impl.DkDisk, impl.DkForm, impl.DkNone, impl.DkFull}) {
		t.Error("kinds and codes")
	}
}

func TestWhatIsDoneOnADisk(t *testing.T) {
	for _, c := range []struct{ what, files, op, live string }{
		{"behind a file's data", "a=1 b=2", "put a 34", "a=134 b=2"},
		{"the last file", "a=1 b=2", "put b 34", "a=1 b=234"},
		{"a file that is not there", "b=2", "put a 1", "a=1 b=2"},
		{"a file that is not there, at the end", "b=2", "put ba 1", "b=2 ba=1"},
		{"a file that is not there, in the middle", "a=1 c=2", "put b 3", "a=1 b=3 c=2"},
		{"the first file", "", "put a 1", "a=1"},
		{"nothing to a file", "a=1", "put a", "a=1"},
		{"nothing to an empty file", "a=", "put a", "a="},
		{"nothing to a file that is not there", "a=1", "put b", "a=1 b="},
		{"a beginning of another name", "ab=1", "put a 2", "a=2 ab=1"},
		{"bytes and not letters decide", "b=1", "put B 2", "B=2 b=1"},
		{"renamed", "a=1 b=2", "rename a c", "b=2 c=1"},
		{"renamed to the front", "b=1 c=2", "rename c a", "a=2 b=1"},
		{"renamed to its own name", "a=1 b=2", "rename a a", "a=1 b=2"},
		{"renamed to its own name, empty", "a=", "rename a a", "a="},
		{"renamed to a name that another file has", "a=1 b=2 c=3", "rename a b", "b=1 c=3"},
		{"and the other way", "a=1 b=2 c=3", "rename b a", "a=2 c=3"},
		{"an empty file to a name that another file has", "a= b=2", "rename a b", "b="},
		{"removed", "a=1 b=2", "remove a", "b=2"},
		{"the last one removed", "a=1", "remove a", ""},
		{"an empty one removed", "a=", "remove a", ""},
	} {
		op := opsOf(t, c.op)[0]
		wantDo(t, c.what, diskOf(t, filesOf(c.files)), op, impl.DkOk, filesOf(c.live))
		// The same files seen, but none of them synced.
		var ops []impl.DOp
		for _, f := range filesOf(c.files) {
			ops = append(ops, put(f.Name, f.Data))
		}
		wantDo(t, c.what+", not synced", diskOf(t, nil, ops...), op, impl.DkOk, filesOf(c.live))
	}
}

func TestNamesOfFiles(t *testing.T) {
	d := diskOf(t, filesOf("a=1"))
	for _, long := range []int{0, 1, 2, 99, 100, 101, 102, 1000} {
		name := bytesLong(long)
		ok := long >= 1 && long <= 100
		files := []impl.File{{Name: name, Data: "1"}}
		if impl.DiskOk(impl.Disk{Live: files, Safe: files}) != ok {
			t.Errorf("a file with a name of %d bytes", long)
		}
		if impl.DiskOk(impl.Disk{Safe: files, Ops: []impl.DOp{remove(name)}}) != ok {
			t.Errorf("a file with a name of %d bytes that was there", long)
		}
		if impl.DiskOk(impl.Disk{Live: files, Ops: []impl.DOp{put(name, "1")}}) != ok {
			t.Errorf("a file with a name of %d bytes that came", long)
		}
		if impl.DiskOk(impl.Disk{Live: files, Safe: filesOf("a=1"), Ops: []impl.DOp{rename("a", name)}}) != ok {
			t.Errorf("a file with a name of %d bytes for another one", long)
		}
		if !ok {
			wantDo(t, fmt.Sprint("put of ", long), d, put(name, "2"), impl.DkForm, nil)
			wantDo(t, fmt.Sprint("rename to ", long), d, rename("a", name), impl.DkForm, nil)
			wantDo(t, fmt.Sprint("rename of ", long), d, rename(name, "b"), impl.DkForm, nil)
			wantDo(t, fmt.Sprint("remove of ", long), d, remove(name), impl.DkForm, nil)
			continue
		}
		wantDo(t, fmt.Sprint("put of ", long), d, put(name, "2"), impl.DkOk, []impl.File{{Name: "a", Data: "1"}, {Name: name, Data: "2"}})
		wantDo(t, fmt.Sprint("rename to ", long), d, rename("a", name), impl.DkOk, files)
		there := diskOf(t, files)
		wantDo(t, fmt.Sprint("rename of ", long), there, rename(name, "b"), impl.DkOk, filesOf("b=1"))
		wantDo(t, fmt.Sprint("remove of ", long), there, remove(name), impl.DkOk, nil)
	}
	// Texts are bytes: any will do.
	for _, name := range []string{"\x00", " ", "\n", "/", "..", "\xff", "é", "a=b", strings.Repeat("é", 50)} {
		wantDo(t, name, diskOf(t, nil), put(name, name), impl.DkOk, []impl.File{{Name: name, Data: name}})
		if data, ok := impl.ReadFile(diskOf(t, nil, put(name, name)), name); !ok || data != name {
			t.Errorf("%q: %q, %v", name, data, ok)
		}
	}
	wantDo(t, "51 runes, 102 bytes", d, put(strings.Repeat("é", 51), ""), impl.DkForm, nil)
}

func TestHowManyFiles(t *testing.T) {
	for n := impl.MaxFiles - 1; n <= impl.MaxFiles+1; n++ {
		files := manyFiles(n, "")
		if ok := n <= impl.MaxFiles; impl.DiskOk(impl.Disk{Live: files, Safe: files}) != ok {
			t.Errorf("%d files", n)
		}
	}
	d := diskOf(t, manyFiles(impl.MaxFiles-1, "1"))
	wantDo(t, "the last one", d, put("g", ""), impl.DkOk, append(manyFiles(impl.MaxFiles-1, "1"), impl.File{Name: "g"}))
	full := diskOf(t, manyFiles(impl.MaxFiles, "1"))
	wantDo(t, "one too many", full, put("g", "1"), impl.DkFull, nil)
	wantDo(t, "one too many, at the front", full, put("a", ""), impl.DkFull, nil)
	all := manyFiles(impl.MaxFiles, "1")
	all[0].Data = "12"
	wantDo(t, "to one of them", full, put("f000", "2"), impl.DkOk, all)
	wantDo(t, "another name", full, rename("f059", "g"), impl.DkOk, append(manyFiles(impl.MaxFiles-1, "1"), impl.File{Name: "g", Data: "1"}))
	wantDo(t, "one less", full, remove("f059"), impl.DkOk, manyFiles(impl.MaxFiles-1, "1"))
	// One too many on the way, and not at the end.
	way := impl.Disk{Live: manyFiles(impl.MaxFiles, "1"), Safe: manyFiles(impl.MaxFiles, "1"), Ops: opsOf(t, "put g 1, remove g")}
	if impl.DiskOk(way) {
		t.Error("61 files on the way")
	}
	way.Ops = opsOf(t, "remove f059, put f059 1")
	if !impl.DiskOk(way) {
		t.Error("59 files on the way")
	}
}

func TestHowManyBytes(t *testing.T) {
	half := bytesLong(impl.MaxBytes / 2)
	for more := -1; more <= 1; more++ {
		one := []impl.File{{Name: "a", Data: bytesLong(impl.MaxBytes + more)}}
		two := []impl.File{{Name: "a", Data: half}, {Name: "b", Data: bytesLong(impl.MaxBytes/2 + more)}}
		for _, files := range [][]impl.File{one, two} {
			if ok := more <= 0; impl.DiskOk(impl.Disk{Live: files, Safe: files}) != ok {
				t.Errorf("%s", shortFiles(files))
			}
		}
		if ok := more <= 0; impl.DiskOk(impl.Disk{Safe: one, Ops: opsOf(t, "remove a")}) != ok {
			t.Errorf("%s, that were there", shortFiles(one))
		}
		d := diskOf(t, two[:1])
		code := int64(impl.DkOk)
		if more > 0 {
			code = impl.DkFull
		}
		wantDo(t, "another file", d, put("b", bytesLong(impl.MaxBytes/2+more)), code, two)
		wantDo(t, "the same file", d, put("a", bytesLong(impl.MaxBytes/2+more)), code, []impl.File{{Name: "a", Data: bytesLong(impl.MaxBytes + more)}})
		wantDo(t, "the first file", diskOf(t, nil), put("a", bytesLong(impl.MaxBytes+more)), code, one)
	}
	full := []impl.File{{Name: "a", Data: half}, {Name: "b", Data: half}}
	wantDo(t, "nothing more", diskOf(t, full), put("a", ""), impl.DkOk, full)
	wantDo(t, "an empty file more", diskOf(t, full), put("c", ""), impl.DkOk, append(slices.Clone(full), impl.File{Name: "c"}))
	wantDo(t, "over another one", diskOf(t, full), rename("a", "b"), impl.DkOk, full[1:])
	wantDo(t, "a byte more", diskOf(t, full), put("c", "1"), impl.DkFull, nil)
	wantDo(t, "long data", diskOf(t, nil), put("a", bytesLong(10*impl.MaxBytes)), impl.DkFull, nil)
	// Too many on the way, and not at the end.
	way := impl.Disk{Safe: full, Live: full[:1], Ops: opsOf(t, "put a 1, remove a, rename b a")}
	if impl.DiskOk(way) {
		t.Error("200001 bytes on the way")
	}
	way.Ops = opsOf(t, "put a, remove a, rename b a")
	if !impl.DiskOk(way) {
		t.Error("200000 bytes on the way")
	}
	// All that ops bring may be far more, as long as what is there is not.
	var ops []impl.DOp
	for range impl.MaxOps / 2 {
		ops = append(ops, put("a", bytesLong(impl.MaxBytes)), remove("a"))
	}
	if !impl.DiskOk(impl.Disk{Ops: ops}) {
		t.Error("full a hundred times")
	}
}

func TestHowManyOps(t *testing.T) {
	for n := impl.MaxOps - 1; n <= impl.MaxOps+1; n++ {
		d := impl.Disk{Live: []impl.File{{Name: "z", Data: strings.Repeat("z", n)}}, Ops: manyOps(n)}
		if ok := n <= impl.MaxOps; impl.DiskOk(d) != ok {
			t.Errorf("%d ops", n)
		}
	}
	d := diskOf(t, filesOf("a=1"), manyOps(impl.MaxOps-1)...)
	z := impl.File{Name: "z", Data: strings.Repeat("z", impl.MaxOps-1)}
	for _, op := range opsOf(t, "put a 2, rename a b, remove a") {
		live, _ := doneByWords(d.Live, op)
		wantDo(t, "the last one", d, op, impl.DkOk, live)
	}
	full := diskOf(t, filesOf("a=1"), manyOps(impl.MaxOps)...)
	for _, op := range opsOf(t, "put a 2, put a, put b 2, rename a b, rename a a, rename a z, remove a, remove z") {
		wantDo(t, "one too many", full, op, impl.DkFull, nil)
	}
	wantDo(t, "synced", impl.Sync(full), put("a", "2"), impl.DkOk, []impl.File{{Name: "a", Data: "12"}, {Name: "z", Data: z.Data + "z"}})
}

func TestOpsOfAnotherForm(t *testing.T) {
	d := diskOf(t, filesOf("a=1 b=2"))
	for _, kind := range []int64{0, 4, 5, -1, -2, -3, 257, 1<<32 + 1, math.MaxInt64, math.MinInt64} {
		for _, op := range opsOf(t, "put a 2, rename a b, remove a, remove none") {
			op.Kind = kind
			wantDo(t, fmt.Sprint("kind ", kind), d, op, impl.DkForm, nil)
		}
		wantDo(t, fmt.Sprint("kind ", kind, " alone"), d, impl.DOp{Kind: kind}, impl.DkForm, nil)
	}
	for what, op := range map[string]impl.DOp{
		"a put with a To": {Kind: impl.DkAppend, Name: "a", To: "b", Data: "1"}, "an empty put with a To": {Kind: impl.DkAppend, Name: "a", To: "b"}, "a put with its own name as To": {Kind: impl.DkAppend, Name: "a", To: "a"},
		"a remove with a To": {Kind: impl.DkRemove, Name: "a", To: "b"}, "a remove with data": {Kind: impl.DkRemove, Name: "a", Data: "1"}, "a remove with all": {Kind: impl.DkRemove, Name: "a", To: "b", Data: "1"},
		"a rename with data": {Kind: impl.DkRename, Name: "a", To: "b", Data: "1"}, "a rename without To": {Kind: impl.DkRename, Name: "a"},
		"a put without a name": {Kind: impl.DkAppend, Data: "1"}, "a rename without a name": {Kind: impl.DkRename, To: "b"}, "a remove without a name": {Kind: impl.DkRemove},
		"a put with a long To": {Kind: impl.DkAppend, Name: "a", To: bytesLong(101)},
	} {
		wantDo(t, what, d, op, impl.DkForm, nil)
		// Nor does such an op stand in a disk.
		if impl.DiskOk(impl.Disk{Live: d.Live, Safe: d.Safe, Ops: []impl.DOp{op}}) || impl.DiskOk(impl.Disk{Live: filesOf("a=11 b=2"), Safe: d.Safe, Ops: []impl.DOp{op}}) || impl.DiskOk(impl.Disk{Live: filesOf("b=1"), Safe: d.Safe, Ops: []impl.DOp{op}}) || impl.DiskOk(impl.Disk{Live: filesOf("b=2"), Safe: d.Safe, Ops: []impl.DOp{op}}) {
			t.Errorf("%s stands in a disk", what)
		}
	}
}

func TestFilesThatAreNotThere(t *testing.T) {
	for _, files := range []string{"", "b=1", "aa=1 b=2", "A=1", "a.new=1"} {
		d := diskOf(t, filesOf(files))
		for _, op := range opsOf(t, "rename a b, rename a a, rename a c, remove a") {
			wantDo(t, fmt.Sprint(files, " ", op), d, op, impl.DkNone, nil)
		}
		if data, ok := impl.ReadFile(d, "a"); ok || data != "" {
			t.Errorf("%q, %v of %s", data, ok, files)
		}
	}
	// It was there, and is there no more, though it would be left after a loss of power.
	d := diskOf(t, filesOf("a=1 b=2"), opsOf(t, "remove a, rename b c")...)
	for _, op := range opsOf(t, "rename a x, remove a, rename b x, remove b") {
		wantDo(t, fmt.Sprint("gone: ", op), d, op, impl.DkNone, nil)
	}
	for name, want := range map[string]bool{"a": false, "b": false, "c": true, "": false, bytesLong(101): false} {
		if _, ok := impl.ReadFile(d, name); ok != want {
			t.Errorf("%q is there: %v", name, ok)
		}
	}
}

// Two refusals would do for each of these inputs.
func TestOrderOfRefusalsOfDo(t *testing.T) {
	full := diskOf(t, []impl.File{{Name: "a", Data: bytesLong(impl.MaxBytes - impl.MaxOps)}}, manyOps(impl.MaxOps)...)
	wantDo(t, "form, and too many ops", full, impl.DOp{Kind: 4, Name: "a"}, impl.DkForm, nil)
	wantDo(t, "form, none, and too many ops", full, impl.DOp{Kind: impl.DkRemove, Name: "b", To: "a"}, impl.DkForm, nil)
	wantDo(t, "form, and too many bytes", full, impl.DOp{Kind: impl.DkAppend, Name: "a", To: "b", Data: "1"}, impl.DkForm, nil)
	wantDo(t, "none, and too many ops", full, remove("b"), impl.DkNone, nil)
	wantDo(t, "none, and too many ops, renamed", full, rename("b", "a"), impl.DkNone, nil)
	wantDo(t, "too many ops, and bytes", full, put("a", "1"), impl.DkFull, nil)
	d := diskOf(t, filesOf("a=1"))
	wantDo(t, "form, and none", d, impl.DOp{Kind: impl.DkRename, Name: "b", To: "c", Data: "1"}, impl.DkForm, nil)
	wantDo(t, "form, and none, without To", d, impl.DOp{Kind: impl.DkRename, Name: "b"}, impl.DkForm, nil)
	wantDo(t, "form, and none, removed", d, impl.DOp{Kind: impl.DkRemove, Name: "b", Data: "1"}, impl.DkForm, nil)
	files := diskOf(t, manyFiles(impl.MaxFiles, ""))
	wantDo(t, "form, and too many files", files, impl.DOp{Kind: impl.DkAppend, Name: "g", To: "h"}, impl.DkForm, nil)
	for what, wrong := range wrongDisks() {
		for _, op := range []impl.DOp{put("a", "1"), {Kind: 4}, remove("none"), {}, put("a", bytesLong(impl.MaxBytes+1))} {
			wantDo(t, what, wrong, op, impl.DkDisk, nil)
		}
	}
}

// wrongDisks are not right, each for another cause.
func wrongDisks() map[string]impl.Disk {
	a, ab := filesOf("a=1"), filesOf("a=1 b=2")
	// Lists are copied, as those of a disk that is asked for shared memory share none themselves.
	made := func(safe []impl.File, live []impl.File, ops ...impl.DOp) impl.Disk {
		return impl.Disk{Live: slices.Clone(live), Safe: slices.Clone(safe), Ops: ops}
	}
	both := func(files []impl.File) impl.Disk { return made(files, files) }
	return map[string]impl.Disk{
		"more is seen than there is": made(nil, a), "less is seen than there is": made(a, nil), "other data are seen": made(a, filesOf("a=2")), "another name is seen": made(a, filesOf("b=1")),
		"one file of two": made(ab, a), "names fall": both(filesOf("b=1 a=2")), "names alike": both(filesOf("a=1 a=1")), "an empty name": both([]impl.File{{Data: "1"}}), "a long name": both([]impl.File{{Name: bytesLong(101)}}),
		"too many files": both(manyFiles(61, "")), "too many bytes": both([]impl.File{{Name: "a", Data: bytesLong(200001)}}), "too many bytes in all": both(manyFiles(3, bytesLong(66667))),
		"names fall in Safe alone": made(filesOf("b=1 a=2"), ab, remove("a"), remove("b"), put("a", "1"), put("b", "2")), "names alike in Safe alone": made(filesOf("a=1 a=2"), nil, remove("a")),
		"too many files in Safe alone": made(manyFiles(61, ""), manyFiles(60, ""), remove("f060")), "too many bytes in Safe alone": made([]impl.File{{Name: "a", Data: bytesLong(200001)}}, nil, remove("a")),
		"an empty name in Safe alone": made([]impl.File{{Data: "1"}}, filesOf("a=1"), impl.DOp{Kind: impl.DkRename, To: "a"}), "names fall in Live alone": made(nil, filesOf("b=2 a=1"), put("b", "2"), put("a", "1")),
		"too many ops": made(nil, []impl.File{{Name: "z", Data: strings.Repeat("z", 201)}}, manyOps(201)...), "an op that is not seen": made(nil, nil, put("a", "1")), "an empty file is not seen": made(nil, nil, put("a", "")), "half of what was put": made(nil, a, put("a", "12")),
		"a rename of none": made(a, a, rename("b", "c")), "a rename of none to its own name": made(a, a, rename("b", "b")), "a remove of none": made(a, a, remove("b")), "a remove twice": made(a, nil, remove("a"), remove("a")), "a rename of what was renamed": made(a, filesOf("b=1"), rename("a", "b"), rename("a", "b")),
		"a rename that is not seen": made(a, a, rename("a", "b")), "a remove that is not seen": made(a, a, remove("a")), "an op of no kind": made(a, a, impl.DOp{Name: "a"}), "an op that is nothing": made(nil, nil, impl.DOp{}), "a remove with a To": made(a, nil, impl.DOp{Kind: impl.DkRemove, Name: "a", To: "b"}),
		"too many bytes on the way": made(nil, nil, put("a", bytesLong(200001)), remove("a")), "too many files on the way": made(manyFiles(60, ""), manyFiles(60, ""), put("g", ""), remove("g")),
	}
}

func TestWrongDisks(t *testing.T) {
	for what, d := range wrongDisks() {
		if impl.DiskOk(d) {
			t.Errorf("%s: right", what)
		}
		if !zeroDisk(impl.Sync(d)) {
			t.Errorf("%s: synced", what)
		}
		for _, keep := range [][]int64{nil, {0}, {-1}} {
			if left, ok := impl.Crash(d, keep, 5); ok || !zeroDisk(left) {
				t.Errorf("%s: a crash leaves %s", what, shortFiles(left.Live))
			}
		}
		for _, name := range []string{"a", "b", "f000", ""} {
			if data, ok := impl.ReadFile(d, name); ok || data != "" {
				t.Errorf("%s: the file %q has %.10q", what, name, data)
			}
			if next, code := impl.Replace(d, name, "new"); code != impl.DkDisk || !zeroDisk(next) {
				t.Errorf("%s: %q replaced tells %d", what, name, code)
			}
		}
	}
	for what, d := range map[string]impl.Disk{
		"nothing": {}, "two files": diskOf(t, filesOf("a=1 b=2")), "ops": {Safe: filesOf("a=1"), Live: filesOf("a=1"), Ops: opsOf(t, "put a, rename a b, rename b a, put c 1, remove c")},
		"empty and not nil": {Live: []impl.File{}, Safe: []impl.File{}, Ops: []impl.DOp{}},
	} {
		if !impl.DiskOk(d) {
			t.Errorf("%s: not right", what)
		}
	}
}

func TestSync(t *testing.T) {
	for _, ops := range []string{"", "put a 2", "remove a", "rename a c, put a 3", "remove a, remove b", "rename a b"} {
		d := diskOf(t, filesOf("a=1 b=2"), opsOf(t, ops)...)
		got := impl.Sync(d)
		if !sameDisk(got, impl.Disk{Live: d.Live, Safe: d.Live}) || !impl.DiskOk(got) {
			t.Errorf("%s: %v", ops, got)
		}
		wantApart(t, ops, d, got)
	}
}

// wantCrash asks for these files, or for a refusal where want is -.
func wantCrash(t *testing.T, what string, d impl.Disk, keep []int64, torn int64, want string) {
	t.Helper()
	left, ok := impl.Crash(d, keep, torn)
	if want == "-" {
		if ok || !zeroDisk(left) {
			t.Errorf("%s: keep %v and torn %d leave %s", what, keep, torn, shortFiles(left.Live))
		}
		return
	}
	files := filesOf(want)
	if !ok || !sameDisk(left, impl.Disk{Live: files, Safe: files}) || !impl.DiskOk(left) {
		t.Errorf("%s: keep %v and torn %d leave %v, %s and %s, not %s", what, keep, torn, ok, filesText(left.Live), filesText(left.Safe), want)
	}
	wantApart(t, what, d, keep, left)
}

func TestWhatACrashKeeps(t *testing.T) {
	const all = 1000
	d := diskOf(t, filesOf("a=1 b=2"), opsOf(t, "put a 345, rename a c, put c 67, remove b, put b 8")...)
	for _, c := range []struct {
		keep []int64
		torn int64
		want string
	}{
		{nil, all, "a=1 b=2"}, {[]int64{}, 0, "a=1 b=2"}, {[]int64{0, 1, 2, 3, 4}, all, "b=8 c=134567"},
		{[]int64{0}, 0, "a=1 b=2"}, {[]int64{0}, 1, "a=13 b=2"}, {[]int64{0}, 2, "a=134 b=2"}, {[]int64{0}, 3, "a=1345 b=2"}, {[]int64{0}, 4, "a=1345 b=2"}, {[]int64{0}, math.MaxInt64, "a=1345 b=2"},
		// The last one is torn alone, whatever stands ahead of it.
		{[]int64{0, 2}, 1, "a=1345 b=2 c=6"}, {[]int64{0, 2}, 0, "a=1345 b=2 c="}, {[]int64{0, 1, 2}, 1, "b=2 c=13456"},
		// Where the last one is no put nothing is torn.
		{[]int64{0, 1}, 0, "b=2 c=1345"}, {[]int64{0, 1, 2, 3}, 0, "c=134567"}, {[]int64{0, 1}, 1, "b=2 c=1345"},
		// Ops that lean on one that is lost.
		{[]int64{1}, all, "b=2 c=1"}, {[]int64{2}, all, "a=1 b=2 c=67"}, {[]int64{2}, 1, "a=1 b=2 c=6"}, {[]int64{2}, 0, "a=1 b=2 c="}, {[]int64{1, 2}, all, "b=2 c=167"}, {[]int64{4}, all, "a=1 b=28"}, {[]int64{3, 4}, 0, "a=1 b="}, {[]int64{3}, 0, "a=1"},
		// Places that do not rise, and that are none.
		{[]int64{1, 0}, all, "-"}, {[]int64{0, 0}, all, "-"}, {[]int64{0, 2, 2}, all, "-"}, {[]int64{0, 2, 1}, all, "-"}, {[]int64{5}, all, "-"}, {[]int64{0, 5}, all, "-"}, {[]int64{-1}, all, "-"}, {[]int64{-1, 0}, all, "-"}, {[]int64{math.MaxInt64}, all, "-"}, {[]int64{math.MinInt64}, all, "-"}, {[]int64{0, 1 << 32}, all, "-"}, {[]int64{1 << 32}, all, "-"},
		{nil, -1, "-"}, {[]int64{0}, -1, "-"}, {[]int64{0, 1}, -1, "-"}, {nil, math.MinInt64, "-"},
	} {
		wantCrash(t, "a crash", d, c.keep, c.torn, c.want)
	}
	synced := diskOf(t, filesOf("a=1"))
	wantCrash(t, "nothing to lose", synced, nil, 0, "a=1")
	wantCrash(t, "nothing to keep", synced, []int64{0}, 0, "-")
	wantCrash(t, "no files", impl.Disk{}, nil, 0, "")
}

func TestOpsThatFindNoFileInACrash(t *testing.T) {
	const all = 1000
	d := diskOf(t, filesOf("b=2"), opsOf(t, "put a 1, rename a b, rename b c, remove c")...)
	wantCrash(t, "renamed is what is not there", d, []int64{1}, all, "b=2")
	wantCrash(t, "and then what is there", d, []int64{1, 2}, all, "c=2")
	wantCrash(t, "removed is what is not there", d, []int64{3}, all, "b=2")
	wantCrash(t, "put and removed another one", d, []int64{0, 3}, all, "a=1 b=2")
	wantCrash(t, "renamed is the old one", d, []int64{0, 2}, all, "a=1 c=2")
	wantCrash(t, "renamed over it", d, []int64{0, 1}, 0, "b=1")
	own := diskOf(t, nil, opsOf(t, "put a 1, rename a a, remove a")...)
	wantCrash(t, "its own name", own, []int64{0, 1}, all, "a=1")
	wantCrash(t, "its own name, and not there", own, []int64{1}, all, "")
	wantCrash(t, "its own name, not there, and removed", own, []int64{1, 2}, all, "")
}

func TestTooMuchBehindACrash(t *testing.T) {
	const all = math.MaxInt64
	long := bytesLong(impl.MaxBytes - 1)
	// Removed and put anew: both are there when the remove is lost.
	d := diskOf(t, []impl.File{{Name: "a", Data: long}}, remove("a"), put("b", "12"))
	wantCrash(t, "too many bytes", d, []int64{1}, all, "-")
	wantCrash(t, "too many bytes, torn off", d, []int64{1}, 1, "a="+long+" b=1")
	wantCrash(t, "all kept", d, []int64{0, 1}, all, "b=12")
	again := diskOf(t, []impl.File{{Name: "a", Data: long}}, remove("a"), put("a", long))
	wantCrash(t, "too many bytes in one file", again, []int64{1}, all, "-")
	wantCrash(t, "a byte of them", again, []int64{1}, 1, "a="+long+"x")
	wantCrash(t, "two bytes of them", again, []int64{1}, 2, "-")
	// More on the way than there may be is nothing that counts.
	way := diskOf(t, nil, put("a", long), remove("a"), put("b", long), rename("b", "a"))
	wantCrash(t, "too many bytes on the way", way, []int64{0, 2, 3}, all, "a="+long)
	wantCrash(t, "too many bytes at the end", way, []int64{0, 2}, all, "-")
	wantCrash(t, "too many bytes on the way, torn off", way, []int64{0, 2}, 1, "a="+long+" b=x")
	files := diskOf(t, manyFiles(impl.MaxFiles, ""), remove("f000"), put("g", ""), remove("f001"))
	wantCrash(t, "too many files", files, []int64{1}, all, "-")
	wantCrash(t, "too many files on the way", files, []int64{1, 2}, all, filesText(append(slices.Delete(manyFiles(impl.MaxFiles, ""), 1, 2), impl.File{Name: "g"})))
	// However much comes together on the way.
	var ops []impl.DOp
	var keep []int64
	for i := range impl.MaxOps/2 - 1 {
		ops = append(ops, put("a", bytesLong(impl.MaxBytes)), remove("a"))
		keep = append(keep, int64(2*i))
	}
	ops = append(ops, put("b", "1"), rename("b", "a"))
	much := diskOf(t, nil, ops...)
	wantCrash(t, "a hundred times as much on the way", much, append(keep, impl.MaxOps-2, impl.MaxOps-1), all, "a=1")
	wantCrash(t, "a hundred times as much", much, keep, all, "-")
}

// wantReplaced asks for this code and, when it is DkOk, for what is seen then and how many ops there are more.
func wantReplaced(t *testing.T, what string, d impl.Disk, name string, data string, code int64, live []impl.File, ops int) {
	t.Helper()
	got, told := impl.Replace(d, name, data)
	if told != code {
		t.Errorf("%s: %d, not %d", what, told, code)
	}
	if code != impl.DkOk {
		live, ops = d.Live, 0
	}
	if !slices.Equal(got.Live, live) || !slices.Equal(got.Safe, d.Safe) || len(got.Ops) != len(d.Ops)+ops || !slices.Equal(got.Ops[:len(d.Ops)], d.Ops) || !impl.DiskOk(got) {
		t.Errorf("%s: %s, not %s, and %d ops", what, shortFiles(got.Live), shortFiles(live), len(got.Ops))
	}
	wantApart(t, what, d, got)
}

func TestReplace(t *testing.T) {
	d := diskOf(t, filesOf("a=1 b=2"))
	wantReplaced(t, "a file", d, "a", "new", impl.DkOk, filesOf("a=new b=2"), 2)
	wantReplaced(t, "a file that is not there", d, "c", "new", impl.DkOk, filesOf("a=1 b=2 c=new"), 2)
	wantReplaced(t, "by nothing", d, "a", "", impl.DkOk, filesOf("a= b=2"), 2)
	wantReplaced(t, "on an empty disk", impl.Disk{}, "a", "1", impl.DkOk, filesOf("a=1"), 2)
	next, _ := impl.Replace(d, "a", "new")
	if !slices.Equal(next.Ops, opsOf(t, "put a.new new, rename a.new a")) {
		t.Error(next.Ops)
	}
	there := diskOf(t, filesOf("a=1 a.new=old b=2"))
	wantReplaced(t, "its other name is there", there, "a", "new", impl.DkOk, filesOf("a=new b=2"), 3)
	wantReplaced(t, "another one's other name is there", there, "b", "new", impl.DkOk, filesOf("a=1 a.new=old b=new"), 2)
	wantReplaced(t, "the other one itself", there, "a.new", "new", impl.DkOk, filesOf("a=1 a.new=new b=2"), 2)
	wantReplaced(t, "one that is not there but for its other name", diskOf(t, filesOf("a.new=old")), "a", "new", impl.DkOk, filesOf("a=new"), 3)
	next, _ = impl.Replace(there, "a", "new")
	if !slices.Equal(next.Ops, opsOf(t, "remove a.new, put a.new new, rename a.new a")) {
		t.Error(next.Ops)
	}
	// It is seen that counts, and not what would be left.
	gone := diskOf(t, filesOf("a=1 a.new=old"), remove("a.new"))
	wantReplaced(t, "its other name was there", gone, "a", "new", impl.DkOk, filesOf("a=new"), 2)
	came := diskOf(t, filesOf("a=1"), put("a.new", "old"))
	wantReplaced(t, "its other name has come", came, "a", "new", impl.DkOk, filesOf("a=new"), 3)
}

func TestReplaceIsRefused(t *testing.T) {
	for long := range 103 {
		code := int64(impl.DkForm)
		if long >= 1 && long+len(".new") <= 100 {
			code = impl.DkOk
		}
		name := bytesLong(long)
		wantReplaced(t, fmt.Sprint("a name of ", long), impl.Disk{}, name, "1", code, []impl.File{{Name: name, Data: "1"}}, 2)
		if long >= 1 && long <= 100 {
			wantReplaced(t, fmt.Sprint("a name of ", long, ", there"), diskOf(t, []impl.File{{Name: name, Data: "0"}}), name, "1", code, []impl.File{{Name: name, Data: "1"}}, 2)
		}
	}
	wantReplaced(t, "no name, and its other one is there", diskOf(t, filesOf(".new=1")), "", "1", impl.DkForm, nil, 0)
	a := filesOf("a=1")
	for n := impl.MaxOps - 4; n <= impl.MaxOps; n++ {
		ops := manyOps(n)
		d := diskOf(t, a, ops...)
		code := int64(impl.DkOk)
		if n+2 > impl.MaxOps {
			code = impl.DkFull
		}
		live := []impl.File{{Name: "a", Data: "new"}, {Name: "z", Data: strings.Repeat("z", n)}}
		wantReplaced(t, fmt.Sprint(n, " ops"), d, "a", "new", code, live, 2)
		there := diskOf(t, filesOf("a=1 a.new=2"), ops...)
		code = impl.DkOk
		if n+3 > impl.MaxOps {
			code = impl.DkFull
		}
		wantReplaced(t, fmt.Sprint(n, " ops, and its other name is there"), there, "a", "new", code, live, 3)
	}
	full := diskOf(t, nil, manyOps(impl.MaxOps)...)
	wantReplaced(t, "too many ops, and no name", full, "", "1", impl.DkFull, nil, 0)
	wantReplaced(t, "too many ops, and a long name", full, bytesLong(97), "1", impl.DkForm, nil, 0)
	last := diskOf(t, nil, manyOps(impl.MaxOps-1)...)
	wantReplaced(t, "the last op, and no name", last, "", "1", impl.DkForm, nil, 0)
	// The old one is there until the new one has its name.
	half := bytesLong(impl.MaxBytes / 2)
	d := diskOf(t, []impl.File{{Name: "a", Data: half}})
	wantReplaced(t, "room for both", d, "a", half, impl.DkOk, []impl.File{{Name: "a", Data: half}}, 2)
	wantReplaced(t, "a byte too many", d, "a", half+"x", impl.DkFull, nil, 0)
	there := diskOf(t, []impl.File{{Name: "a", Data: half}, {Name: "a.new", Data: half}})
	wantReplaced(t, "room for both without the other one", there, "a", half, impl.DkOk, []impl.File{{Name: "a", Data: half}}, 3)
	wantReplaced(t, "a byte too many without the other one", there, "a", half+"x", impl.DkFull, nil, 0)
	wantReplaced(t, "too many bytes, and no name", there, "", "x", impl.DkFull, nil, 0)
	files := diskOf(t, manyFiles(impl.MaxFiles, ""))
	wantReplaced(t, "too many files on the way", files, "f000", "1", impl.DkFull, nil, 0)
}
