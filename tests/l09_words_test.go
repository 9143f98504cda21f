package tests

import (
	"encoding/binary"
	"hash/crc32"
	"regexp"
	"slices"
	"strconv"
	"strings"

	"loop.example/g00297/impl"
)

// The store by the words of the document: files are taken apart by patterns, and steps are laid out one by one.

// seen is what lies on a disk.
type seen struct {
	schema []impl.Type
	tuples []impl.Tuple
	number int64
	good   bool
}

var (
	decimal  = regexp.MustCompile(`^(0|[1-9][0-9]{0,9})$`)
	baseForm = regexp.MustCompile(`^([0-9]+)\n((?:[^\n]* [^\n]*\n)*)tuples\n((?:[^ \n]+\n)*)$`)
	logForm  = regexp.MustCompile(`^([0-9]+)\n(add|drop) ([^\n]+)$`)
)

func framesByWords(s string) ([]string, bool) {
	var list []string
	for len(s) >= 8 {
		size := int(binary.BigEndian.Uint32([]byte(s[:4])))
		if size > 100000 || len(s) < 8+size || crc32.ChecksumIEEE([]byte(s[8:8+size])) != binary.LittleEndian.Uint32([]byte(s[4:8])) {
			break
		}
		list = append(list, s[8:8+size])
		s = s[8+size:]
	}
	return list, s == ""
}

func numberByWords(s string) (int64, bool) {
	n, _ := strconv.ParseInt(s, 10, 64)
	return n, decimal.MatchString(s) && n <= 1000000000
}

func fileNamed(files []impl.File, name string) (string, bool) {
	for _, f := range files {
		if f.Name == name {
			return f.Data, true
		}
	}
	return "", false
}

func viewByWords(files []impl.File) (seen, int64) {
	base, there := fileNamed(files, "base")
	if !there {
		return seen{}, 7
	}
	v, ok := baseByWords(base)
	if !ok {
		return seen{}, 2
	}
	log, _ := fileNamed(files, "log")
	frames, whole := framesByWords(log)
	v.good = whole
	for _, data := range frames {
		parts := logForm.FindStringSubmatch(data)
		if parts == nil {
			v.good = false
			break
		}
		n, isNumber := numberByWords(parts[1])
		u, isTuple := impl.ReadTuple(parts[3])
		if !isNumber || !isTuple || n > v.number+1 {
			v.good = false
			break
		}
		if n == v.number+1 {
			v.number = n
			v.tuples = changedByWords(v.schema, v.tuples, impl.Change{Kind: map[string]int64{"add": 1, "drop": 2}[parts[2]], Tuple: u})
		}
	}
	return v, 0
}

func baseByWords(file string) (seen, bool) {
	frames, whole := framesByWords(file)
	if !whole || len(frames) != 1 {
		return seen{}, false
	}
	parts := baseForm.FindStringSubmatch(frames[0])
	if parts == nil {
		return seen{}, false
	}
	n, isNumber := numberByWords(parts[1])
	s, isSchema := impl.ReadSchema(parts[2])
	if !isNumber || !isSchema {
		return seen{}, false
	}
	v := seen{schema: s, number: n}
	for _, text := range strings.Fields(parts[3]) {
		u, ok := impl.ReadTuple(text)
		if !ok || !impl.Fits(s, u) {
			return seen{}, false
		}
		v.tuples = append(v.tuples, u)
	}
	return v, impl.TuplesOk(v.tuples)
}

// changedByWords answers the tuples behind a change, which stay where it is refused.
func changedByWords(s []impl.Type, l []impl.Tuple, c impl.Change) []impl.Tuple {
	if codeByWords(s, l, c) != 0 {
		return l
	}
	if c.Kind == impl.ChAdd {
		return inTextOrder(append(slices.Clone(l), c.Tuple))
	}
	return slices.DeleteFunc(slices.Clone(l), func(u impl.Tuple) bool { return u == c.Tuple })
}

func baseText(v seen) string {
	text := strconv.FormatInt(v.number, 10) + "\n" + impl.SchemaText(v.schema) + "tuples\n"
	for _, u := range v.tuples {
		text += impl.TupleText(u) + "\n"
	}
	return text
}

// sync stands among steps for a Sync.
var sync = impl.DOp{Name: "sync"}

// steppedByWords answers false when the step is refused.
func steppedByWords(d impl.Disk, step impl.DOp) (impl.Disk, bool) {
	if step == sync {
		return impl.Disk{Live: d.Live, Safe: d.Live}, true
	}
	live, code := doneByWords(d.Live, step)
	if code != 0 || len(d.Ops) >= 200 {
		return d, false
	}
	return impl.Disk{Live: live, Safe: d.Safe, Ops: append(slices.Clone(d.Ops), step)}, true
}

func savedByWords(files []impl.File, v seen) []impl.DOp {
	gone := func(name string) []impl.DOp {
		if _, there := fileNamed(files, name); there {
			return []impl.DOp{remove(name), sync}
		}
		return nil
	}
	return slices.Concat([]impl.DOp{sync}, gone("base.new"), []impl.DOp{put("base.new", frame(baseText(v))), rename("base.new", "base"), sync}, gone("log"))
}

// stepsByWords answers the disk from which the steps start, the steps, and the code of a refusal; d is right.
func stepsByWords(d impl.Disk, a impl.Act) (impl.Disk, []impl.DOp, int64) {
	if a.Kind < 1 || a.Kind > 6 {
		return d, nil, 3
	}
	if a.Kind == 1 {
		if _, there := fileNamed(d.Live, "base"); there || !impl.SchemaOk(a.Schema) {
			return d, nil, 3
		}
		var steps []impl.DOp
		for _, f := range d.Live {
			steps = append(steps, remove(f.Name))
		}
		return d, append(steps, savedByWords(nil, seen{schema: a.Schema})...), 0
	}
	if a.Kind == 5 {
		if !keepByWords(a.Keep, len(d.Ops)) || a.Torn < 0 {
			return d, nil, 3
		}
		files, ok := crashedByWords(d, a.Keep, a.Torn)
		if !ok {
			return d, nil, 3
		}
		d = impl.Disk{Live: files, Safe: files}
	}
	v, code := viewByWords(d.Live)
	if code != 0 {
		return d, nil, code
	}
	switch {
	case a.Kind == 2 && (impl.ChangeText(a.Change) == "" || v.number == 1000000000), a.Kind == 6 && (!impl.SchemaOk(a.Schema) || v.number == 1000000000):
		return d, nil, 3
	case a.Kind != 4 && a.Kind != 5 && !v.good:
		return d, nil, 6
	case a.Kind == 6 && len(impl.Unfit(a.Schema, v.tuples)) > 0:
		return d, nil, 8
	case a.Kind == 2:
		steps := []impl.DOp{put("log", frame(strconv.FormatInt(v.number+1, 10)+"\n"+impl.ChangeText(a.Change)))}
		if a.Sync {
			steps = append(steps, sync)
		}
		return d, steps, 0
	case a.Kind == 6:
		return d, savedByWords(d.Live, seen{schema: a.Schema, tuples: v.tuples, number: v.number + 1}), 0
	case a.Kind == 3 || !v.good:
		return d, savedByWords(d.Live, v), 0
	}
	return d, nil, 0
}

func keepByWords(keep []int64, ops int) bool {
	for i, at := range keep {
		if at < 0 || at >= int64(ops) || i > 0 && at <= keep[i-1] {
			return false
		}
	}
	return true
}

// actByWords answers the disk and the code of StoreDo; d is right.
func actByWords(d impl.Disk, a impl.Act) (impl.Disk, int64) {
	start, steps, code := stepsByWords(d, a)
	if code != 0 {
		return start, code
	}
	return poweredByWords(start, steps, a.Power)
}

func poweredByWords(start impl.Disk, steps []impl.DOp, power int64) (impl.Disk, int64) {
	now := start
	for i, step := range steps {
		if power >= 0 && int64(i) == power {
			return now, 5
		}
		next, ok := steppedByWords(now, step)
		if !ok {
			return start, 4
		}
		now = next
	}
	return now, 0
}
