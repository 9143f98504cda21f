package tests

import (
	"go/ast"
	"go/parser"
	"go/token"
	"maps"
	"math/rand"
	"path/filepath"
	"reflect"
	"slices"
	"strings"
	"testing"

	"loop.example/g00297/impl"
)

// What the document promises of all chapters: the same arguments give the same answers, and nothing is written into an argument.

func everyFunction() map[string]any {
	return map[string]any{
		"NameOk": impl.NameOk, "IdOk": impl.IdOk, "ObjectText": impl.ObjectText, "ReadObject": impl.ReadObject, "TupleText": impl.TupleText, "ReadTuple": impl.ReadTuple, "Ahead": impl.Ahead, "TuplesOk": impl.TuplesOk, "Added": impl.Added, "Removed": impl.Removed,
		"ExprOk": impl.ExprOk, "SchemaOk": impl.SchemaOk, "RelOf": impl.RelOf, "Fits": impl.Fits, "StratumOf": impl.StratumOf,
		"ExprText": impl.ExprText, "ReadExpr": impl.ReadExpr, "SchemaText": impl.SchemaText, "ReadSchema": impl.ReadSchema,
		"FactAhead": impl.FactAhead, "Facts": impl.Facts, "Check": impl.Check, "UsersOf": impl.UsersOf, "ObjectsOf": impl.ObjectsOf,
		"Follows": impl.Follows, "ProofOk": impl.ProofOk, "ProofOf": impl.ProofOf,
		"Applied": impl.Applied, "Delta": impl.Delta, "TuplesAt": impl.TuplesAt, "CheckAt": impl.CheckAt,
		"Renamed": impl.Renamed, "RenamedTuples": impl.RenamedTuples, "Inlined": impl.Inlined, "Pruned": impl.Pruned, "Unfit": impl.Unfit,
		"DiskOk": impl.DiskOk, "Do": impl.Do, "Sync": impl.Sync, "Crash": impl.Crash, "ReadFile": impl.ReadFile, "Replace": impl.Replace,
		"FrameOf": impl.FrameOf, "TakeFrames": impl.TakeFrames, "ChangeText": impl.ChangeText, "ReadChange": impl.ReadChange, "StoreView": impl.StoreView, "StoreDo": impl.StoreDo, "StorePlay": impl.StorePlay,
		"RunScript": impl.RunScript,
	}
}

func TestEveryFunctionIsAsked(t *testing.T) {
	files, err := filepath.Glob("../impl/*.go")
	if err != nil {
		t.Fatal(err)
	}
	var exported []string
	for _, name := range files {
		file, err := parser.ParseFile(token.NewFileSet(), name, nil, 0)
		if err != nil {
			t.Fatal(err)
		}
		for _, d := range file.Decls {
			if f, ok := d.(*ast.FuncDecl); ok && f.Recv == nil && f.Name.IsExported() {
				exported = append(exported, f.Name.Name)
			}
		}
	}
	slices.Sort(exported)
	if asked := slices.Sorted(maps.Keys(everyFunction())); !slices.Equal(asked, exported) {
		t.Errorf("asked are %v, and there are %v", asked, exported)
	}
}

// argumentMaker has data and a disk, which are right most times: the arguments of a call are made of them.
type argumentMaker struct {
	r      *rand.Rand
	store  storeMaker
	script scriptMaker
	schema []impl.Type
	tuples []impl.Tuple
	facts  []impl.Fact
	disk   impl.Disk
}

func argumentMakerOf(t *testing.T, seed int64) *argumentMaker {
	t.Helper()
	r := rand.New(rand.NewSource(seed))
	return &argumentMaker{r: r, store: storeMaker{r, storeSchemas(t), storeChanges(t)}, script: scriptMaker{r}}
}

func (m *argumentMaker) next(t *testing.T) {
	t.Helper()
	m.schema, m.tuples = mixedData(m.r)
	for len(m.tuples) == 0 {
		m.schema, m.tuples = mixedData(m.r)
	}
	m.tuples = m.tuples[:min(len(m.tuples), 20)]
	m.facts = impl.Facts(m.schema, m.tuples)
	m.disk = m.store.disk(t)
	switch m.r.Intn(6) {
	case 0:
		m.tuples = append(m.tuples, impl.Tuple{Rel: "a"})
	case 1:
		m.tuples = append(m.tuples, tupleOf(t, "zoo:z#a@user:x"))
	case 2:
		m.schema[0].Name = "Zoo"
	case 3:
		spoilDisk(m.r, &m.disk)
	}
}

// names answers what the texts of a call are in turn: a type and a relation of it, or of a fact where there is one, and another name.
func (m *argumentMaker) names(f impl.Fact) []string {
	typeName, relName := f.Object.Type, f.Rel
	switch m.r.Intn(3) {
	case 0:
		typeName, relName = anyRelation(m.r, m.schema)
	case 1:
		typeName, relName = withoutThis(m.r, m.schema)
	}
	return []string{typeName, relName, []string{"new", "a"}[m.r.Intn(2)]}
}

func (m *argumentMaker) fact() impl.Fact {
	if len(m.facts) == 0 {
		return impl.Fact{}
	}
	return m.facts[m.r.Intn(len(m.facts))]
}

func (m *argumentMaker) tuple() impl.Tuple {
	list := append(fittingTuples(m.schema, "x", "y"), m.tuples...)
	return list[m.r.Intn(len(list))]
}

// text answers one of those that some function reads.
func (m *argumentMaker) text() string {
	u := m.tuple()
	e, _ := impl.RelOf(m.schema, u.Object.Type, u.Rel)
	text := impl.TupleText(u)
	list := []string{"a", "base", impl.ObjectText(u.Object), text, "add " + text, impl.ExprText(e), impl.SchemaText(m.schema), frame(text) + frame("") + "?", scriptOf(m.script.lines(8))}
	return list[m.r.Intn(len(list))]
}

// argument answers one of a type that needs no other one.
func (m *argumentMaker) argument(t *testing.T, of reflect.Type) any {
	t.Helper()
	u := m.tuple()
	log := []impl.Change{{Kind: impl.ChAdd, Tuple: u}, {Kind: int64(1 + m.r.Intn(2)), Tuple: m.tuple()}}
	e, _ := impl.RelOf(m.schema, u.Object.Type, u.Rel)
	act := m.store.act(len(m.disk.Ops))
	for _, v := range []any{u, log[1], log, m.schema, m.tuples, m.fact(), m.facts[:m.r.Intn(len(m.facts)+1)], e, m.disk, randomOp(m.r, m.disk.Live), act, []impl.Act{act, m.store.act(1)}, act.Keep, int64(m.r.Intn(3))} {
		if reflect.TypeOf(v) == of {
			return v
		}
	}
	t.Fatal("no argument of the type", of)
	return nil
}

// arguments answers those of a call; its objects and names are those of one fact most times.
func (m *argumentMaker) arguments(t *testing.T, function reflect.Type) []any {
	t.Helper()
	var (
		text   = reflect.TypeFor[string]()
		object = reflect.TypeFor[impl.Object]()
		disk   = reflect.TypeFor[impl.Disk]()
	)
	f := m.fact()
	names := m.names(f)
	var args []any
	for i := range function.NumIn() {
		switch of := function.In(i); {
		case of == text && function.NumIn() == 1:
			args = append(args, m.text())
		case of == text && function.In(0) == disk:
			args = append(args, []string{"base", "log", "new"}[m.r.Intn(3)])
		case of == text && function.In(i-1) == object:
			args = append(args, f.Rel)
		case of == text:
			args = append(args, names[0])
			names = names[1:]
		case of == object && i > 0 && function.In(i-1) == text:
			args = append(args, f.User)
		case of == object:
			args = append(args, f.Object)
		default:
			args = append(args, m.argument(t, of))
		}
	}
	return args
}

// withRoom answers a copy in which each list has room for one more, with something in it.
func withRoom(v reflect.Value) reflect.Value {
	out := reflect.New(v.Type()).Elem()
	switch v.Kind() {
	case reflect.Slice:
		list := reflect.MakeSlice(v.Type(), v.Len()+1, v.Len()+1)
		for i := range v.Len() {
			list.Index(i).Set(withRoom(v.Index(i)))
		}
		list.Index(v.Len()).Set(marked(v.Type().Elem()))
		out.Set(list.Slice(0, v.Len()))
	case reflect.Struct:
		for i := range v.NumField() {
			out.Field(i).Set(withRoom(v.Field(i)))
		}
	default:
		out.Set(v)
	}
	return out
}

func marked(of reflect.Type) reflect.Value {
	out := reflect.New(of).Elem()
	switch of.Kind() {
	case reflect.String:
		out.SetString("room")
	case reflect.Int64:
		out.SetInt(77)
	case reflect.Struct:
		for i := range of.NumField() {
			out.Field(i).Set(marked(of.Field(i).Type))
		}
	}
	return out
}

// all answers a copy of a value with the room behind each list as a part of it.
func all(v reflect.Value) reflect.Value {
	out := reflect.New(v.Type()).Elem()
	switch v.Kind() {
	case reflect.Slice:
		whole := v.Slice(0, v.Cap())
		list := reflect.MakeSlice(v.Type(), whole.Len(), whole.Len())
		for i := range whole.Len() {
			list.Index(i).Set(all(whole.Index(i)))
		}
		out.Set(list)
	case reflect.Struct:
		for i := range v.NumField() {
			out.Field(i).Set(all(v.Field(i)))
		}
	default:
		out.Set(v)
	}
	return out
}

func eachOf(list []reflect.Value, of func(reflect.Value) reflect.Value) []reflect.Value {
	var out []reflect.Value
	for _, v := range list {
		out = append(out, of(v))
	}
	return out
}

func plainValues(list []reflect.Value) []any {
	var out []any
	for _, v := range list {
		out = append(out, v.Interface())
	}
	return out
}

// question is a call with its arguments, what they were with all room behind them, and what it answered.
type question struct {
	name    string
	call    reflect.Value
	args    []reflect.Value
	were    []any
	answers []any
}

func (m *argumentMaker) question(t *testing.T, name string, function any) question {
	t.Helper()
	q := question{name: name, call: reflect.ValueOf(function)}
	for _, arg := range m.arguments(t, q.call.Type()) {
		q.args = append(q.args, withRoom(reflect.ValueOf(arg)))
	}
	q.were = plainValues(eachOf(q.args, all))
	return q
}

func (q question) ask() []any { return plainValues(q.call.Call(q.args)) }

func (q question) wantArgumentsAsTheyWere(t *testing.T) {
	t.Helper()
	if !same(plainValues(eachOf(q.args, all)), q.were) {
		t.Fatalf("%s writes into an argument or the room behind it: %v", q.name, q.were)
	}
}

// spoilLists writes into each list of an answer, and the room behind it.
func spoilLists(v reflect.Value) {
	switch v.Kind() {
	case reflect.Slice:
		whole := v.Slice(0, v.Cap())
		for i := range whole.Len() {
			spoilLists(whole.Index(i))
			whole.Index(i).Set(marked(v.Type().Elem()))
		}
	case reflect.Struct:
		for i := range v.NumField() {
			spoilLists(v.Field(i))
		}
	}
}

func TestTheSameArgumentsGiveTheSameAnswers(t *testing.T) {
	m := argumentMakerOf(t, 111)
	functions := everyFunction()
	full := map[string]int{}
	for range 70 {
		m.next(t)
		var list []question
		for _, name := range slices.Sorted(maps.Keys(functions)) {
			for range 3 {
				q := m.question(t, name, functions[name])
				q.answers = q.ask()
				q.wantArgumentsAsTheyWere(t)
				wantApart(t, name, append(plainValues(q.args), q.answers...)...)
				list = append(list, q)
			}
		}
		// Asked again in another order, when other calls have been made and their answers written into.
		for _, q := range slices.Backward(list) {
			again := q.ask()
			if !same(again, q.answers) {
				t.Fatalf("%s: %v, and then %v, of %v", q.name, q.answers, again, q.were)
			}
			for _, v := range again {
				spoilLists(reflect.ValueOf(v))
			}
			if !same(q.ask(), q.answers) {
				t.Fatalf("%s: another answer when the last one was written into", q.name)
			}
			q.wantArgumentsAsTheyWere(t)
			if slices.ContainsFunc(q.answers, func(v any) bool { return !reflect.ValueOf(v).IsZero() }) {
				full[q.name]++
			}
		}
	}
	for name := range functions {
		if full[name] < 10 {
			t.Errorf("%s has answered too little: %d", name, full[name])
		}
	}
}

// Calls at the same time are answered as they are one by one.
func TestCallsAtTheSameTime(t *testing.T) {
	m := argumentMakerOf(t, 112)
	functions := everyFunction()
	for range 10 {
		m.next(t)
		var list []question
		for _, name := range slices.Sorted(maps.Keys(functions)) {
			q := m.question(t, name, functions[name])
			q.answers = q.ask()
			list = append(list, q)
		}
		const workers = 4
		wrong := make(chan string, workers)
		for range workers {
			go func() {
				var names []string
				for _, q := range list {
					if !same(q.ask(), q.answers) {
						names = append(names, q.name)
					}
				}
				wrong <- strings.Join(names, " ")
			}()
		}
		for range workers {
			if names := <-wrong; names != "" {
				t.Error("other answers at the same time:", names)
			}
		}
	}
}
