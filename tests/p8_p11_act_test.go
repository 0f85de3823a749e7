package tests

import (
	"cmp"
	"fmt"
	"math"
	"slices"
	"testing"
	"unsafe"

	"loop.example/shuttle/impl"
)

// P8: Do of a sound store is sound. P11, of acts: nothing is written into an argument, every answer is new memory, and the same argument has the same answer.

// chanceAct is drawn so that most acts are right for the store, and some are not.
func chanceAct(r *dice, s impl.Store) impl.Act {
	fields := []string{"x", "y", "z", "", "w"}
	keys := []impl.Value{num(1), num(2), num(3), num(5), float(2), float(0.5), truth(1), thing(impl.KTable, 1), builtin(2)}
	vals := []impl.Value{num(7), text("v"), float(negZero), truth(0), nothing, nothing}
	table, site := r.below(len(s.Tables)+1), r.below(len(s.Sites)+1)
	if r.below(20) > 0 {
		table, site = r.below(max(len(s.Tables), 1)), r.below(max(len(s.Sites), 1))
	}
	k, v := text(fields[r.below(len(fields))]), vals[r.below(len(vals))]
	if r.below(4) == 0 {
		k = keys[r.below(len(keys))]
	}
	switch r.below(24) {
	case 0:
		return actNew()
	case 1:
		return actSite(fields[r.below(len(fields))])
	case 2, 3:
		return actGet(table, k)
	case 4, 5:
		return actAfter(table, r.below(9))
	case 6:
		return actLen(table)
	case 7:
		return actCount(table)
	case 8, 9, 10:
		return actField(site, table)
	case 11, 12, 13, 14:
		return actSetField(site, table, v)
	case 15:
		return wrongAct(r, table, k, v)
	}
	return actPut(table, k, v)
}

func wrongAct(r *dice, table int, k, v impl.Value) impl.Act {
	wrong := []impl.Act{
		{}, {Op: 10}, {Op: impl.ANew, T: 1}, actPut(table, nothing, v), actGet(table, float(math.NaN())), actPut(100, k, v), actAfter(table, -1),
		{Op: impl.ASite, K: num(1)}, actField(50, table), actSetField(0, table, truth(2)), actPut(table, impl.Value{Kind: 9}, v),
	}
	return wrong[r.below(len(wrong))]
}

// edgeStore is one step away from each limit: the shapes, the tables, the sites, the pairs, the turns and the counts.
func edgeStore() impl.Store {
	late := func(d impl.Dict) impl.Dict { return spoil(d, func(d *impl.Dict) { d.Turns = mostTurns - 2 }) }
	s := impl.Store{Forest: someForest()}
	for i := len(s.Forest.Shapes); i < 197; i++ {
		s.Forest.Shapes = append(s.Forest.Shapes, shape(0, fmt.Sprint("f", i), 1))
	}
	s.Tables = append(someStore().Tables, dictTable(late(dictOf(num(1), text("y")))), dictTable(late(impl.Dict{})), dictTable(late(logOf(5, 3))))
	s.Tables = append(s.Tables, slices.Repeat([]impl.Table{record(2, num(1), num(2))}, 98-len(s.Tables))...)
	for i := range 48 {
		x := counted(site([]string{"x", "y", "z", "", "w"}[i%5], -1, 0), mostTurns-i%3, mostTurns-i%2)
		s.Sites = append(s.Sites, x)
	}
	return s
}

// kindOfDone names what has become of the act's table and site.
func kindOfDone(s impl.Store, a impl.Act, done impl.Done) []string {
	kinds := []string{fmt.Sprint("op ", a.Op), fmt.Sprint("code ", done.Ans.Code)}
	if done.Ans.Code == 0 && (a.Op == impl.APut || a.Op == impl.ASetField) {
		before, after := s.Tables[a.T].Shape, done.Store.Tables[a.T].Shape
		switch {
		case before >= 0 && after < 0:
			kinds = append(kinds, "lost its shape")
		case len(done.Store.Forest.Shapes) > len(s.Forest.Shapes):
			kinds = append(kinds, "a new shape")
		case before != after:
			kinds = append(kinds, "another shape that was there")
		case before >= 0:
			kinds = append(kinds, "kept its shape")
		default:
			kinds = append(kinds, "a dict")
		}
	}
	if a.Op >= impl.AField && (done.Ans.Code == 0 || done.Ans.Code == impl.TooMany) {
		before, after := s.Sites[a.Site], done.Store.Sites[a.Site]
		switch {
		case after.Shape != before.Shape:
			kinds = append(kinds, "learnt")
		case s.Tables[a.T].Shape >= 0 && s.Tables[a.T].Shape == before.Shape:
			kinds = append(kinds, "hit")
		default:
			kinds = append(kinds, "learnt nothing")
		}
	}
	return kinds
}

// runScript does acts by chance, each of which has to answer as the second reading does, from a store that is sound on to one that is.
func runScript(t *testing.T, r *dice, s impl.Store, acts int, met map[string]int) {
	t.Helper()
	for range acts {
		a := chanceAct(r, s)
		before := showStore(s)
		done := impl.Do(s, a)
		if got, want := showDone(done), showDone(modelDo(s, a)); got != want {
			t.Fatalf("%s: got\n%s\nwant\n%s\nfrom\n%s", showAct(a), got, want, before)
		}
		if rule := impl.StoreOk(done.Store); rule != 0 {
			t.Fatalf("%s: rule %d fails behind it, from\n%s", showAct(a), rule, before)
		}
		if showStore(s) != before {
			t.Fatalf("%s: the store was changed:\n%s", showAct(a), before)
		}
		for _, kind := range kindOfDone(s, a, done) {
			met[kind]++
		}
		s = done.Store
	}
}

func wantMet(t *testing.T, met map[string]int, least int, kinds ...string) {
	t.Helper()
	for _, kind := range kinds {
		if met[kind] < least {
			t.Errorf("%s: met %d times", kind, met[kind])
		}
	}
}

func TestScriptsStaySound(t *testing.T) {
	met := map[string]int{}
	r := dice(41)
	for range 60 {
		runScript(t, &r, impl.Empty(), 200, met)
	}
	for range 200 {
		runScript(t, &r, chanceStore(&r), 25, met)
	}
	for op := 1; op <= 9; op++ {
		wantMet(t, met, 300, fmt.Sprint("op ", op))
	}
	wantMet(t, met, 50, "code 0", "code 1", "code 2", "code 3", "code 4")
	wantMet(t, met, 100, "lost its shape", "a new shape", "another shape that was there", "kept its shape", "a dict", "learnt", "hit", "learnt nothing")
}

func TestScriptsStaySoundAtTheLimits(t *testing.T) {
	met := map[string]int{}
	r := dice(43)
	if rule := impl.StoreOk(edgeStore()); rule != 0 {
		t.Fatalf("rule %d", rule)
	}
	for range 12 {
		runScript(t, &r, edgeStore(), 120, met)
	}
	wantMet(t, met, 20, "code 5", "lost its shape", "a new shape", "learnt", "learnt nothing")
}

// The acts of the given test of this stage, each of them also on every store that comes ahead of it and behind it.
func TestGivenActsOnGivenStores(t *testing.T) {
	acts := []impl.Act{
		actGet(0, num(1)), actNew(), actNew(), actField(0, 0), actSite("y"), actPut(0, text("x"), num(1)), actPut(0, text("y"), num(2)),
		actField(0, 0), actField(0, 1), actSetField(0, 0, num(3)), actGet(0, text("y")), actPut(0, nothing, num(3)), actAfter(0, 1), actCount(0),
		actPut(0, text("x"), nothing), actPut(0, text("x"), num(9)), actField(0, 0), actPut(1, num(5), nothing), actPut(1, num(1), num(5)), actLen(1),
	}
	stores := []impl.Store{impl.Empty(), someStore(), edgeStore()}
	s := impl.Empty()
	for _, a := range acts {
		s = impl.Do(s, a).Store
		stores = append(stores, s)
	}
	for i, s := range stores {
		for _, a := range acts {
			done, want := impl.Do(s, a), modelDo(s, a)
			if showDone(done) != showDone(want) || impl.StoreOk(done.Store) != 0 {
				t.Fatalf("store %d, %s: got\n%s\nwant\n%s", i, showAct(a), showDone(done), showDone(want))
			}
		}
	}
}

// span is the memory that a list has room in.
type span struct {
	what     string
	from, to uintptr
}

func spanOf[T any](what string, list []T) span {
	from := uintptr(unsafe.Pointer(unsafe.SliceData(list)))
	var one T
	return span{what, from, from + uintptr(cap(list))*unsafe.Sizeof(one)}
}

func spansOf(name string, s impl.Store) []span {
	spans := []span{spanOf(name+" shapes", s.Forest.Shapes), spanOf(name+" tables", s.Tables), spanOf(name+" sites", s.Sites)}
	for i, t := range s.Tables {
		at := fmt.Sprint(name, " table ", i)
		spans = append(spans, spanOf(at+" vals", t.Vals), spanOf(at+" log", t.Dict.Log), spanOf(at+" ints", t.Dict.Ints), spanOf(at+" index", t.Dict.Index))
	}
	return spans
}

// wantApart wants no two of the lists to share memory.
func wantApart(t *testing.T, what string, spans []span) {
	t.Helper()
	spans = slices.DeleteFunc(spans, func(x span) bool { return x.from == x.to })
	slices.SortFunc(spans, func(a, b span) int { return cmp.Compare(a.from, b.from) })
	for i := 1; i < len(spans); i++ {
		if spans[i].from < spans[i-1].to {
			t.Errorf("%s: %s and %s share memory", what, spans[i-1].what, spans[i].what)
		}
	}
}

// actsOnSomeStore has acts of every kind for someStore: those that change a table of either kind, those that only read, and those with a code.
func actsOnSomeStore() []impl.Act {
	acts := []impl.Act{
		actNew(), actSite("x"),
		actPut(0, text("y"), num(1)), actPut(0, text("w"), num(1)), actPut(0, text("y"), nothing), actPut(0, num(1), num(1)), actPut(0, text("w"), nothing),
		actPut(1, num(1), num(8)), actPut(1, text("x"), num(8)), actPut(1, num(1), nothing), actPut(1, text("x"), nothing), actPut(1, num(3), num(1)),
		actPut(2, text("x"), num(1)), actPut(2, num(1), num(1)), actPut(4, num(1), num(1)), actPut(4, text("x"), num(1)), actPut(5, text("y"), num(1)),
		{}, actPut(0, nothing, num(1)), actGet(9, num(1)), actField(9, 0), actPut(0, text("x"), truth(2)),
	}
	for table := range someStore().Tables {
		acts = append(acts, actGet(table, text("x")), actGet(table, num(1)), actAfter(table, 0), actLen(table), actCount(table))
		for x := range someStore().Sites {
			acts = append(acts, actField(x, table), actSetField(x, table, num(6)), actSetField(x, table, nothing))
		}
	}
	return acts
}

func wantNothingShared(t *testing.T, s impl.Store, a impl.Act) {
	t.Helper()
	what := showAct(a)
	want := showDone(modelDo(s, a))
	s = roomyStore(s)
	before := showStore(stretched(s))
	first, second := impl.Do(s, a), impl.Do(s, a)
	if showStore(stretched(s)) != before {
		t.Errorf("%s: something was written into a list or behind it", what)
	}
	wantApart(t, what, slices.Concat(spansOf("argument", s), spansOf("first", first.Store), spansOf("second", second.Store)))
	scribbleStore(first.Store)
	if showStore(stretched(s)) != before {
		t.Errorf("%s: the argument follows the answer", what)
	}
	if showDone(second) != want {
		t.Errorf("%s: one answer follows another", what)
	}
	third := impl.Do(s, a)
	scribbleStore(s)
	if showDone(second) != want || showDone(third) != want {
		t.Errorf("%s: the answer follows the argument", what)
	}
}

func TestDoSharesNothing(t *testing.T) {
	for _, a := range actsOnSomeStore() {
		wantNothingShared(t, someStore(), a)
	}
	full := someStore()
	full.Tables[1] = dictTable(fullDict())
	full.Tables[4] = dictTable(spentDict())
	for _, a := range []impl.Act{actPut(1, text("new"), num(1)), actPut(4, text("new"), num(1)), actSetField(1, 1, num(1)), actSetField(0, 4, num(1))} {
		if code := impl.Do(full, a).Ans.Code; code != impl.TooMany {
			t.Errorf("%s: code %d", showAct(a), code)
		}
		wantNothingShared(t, full, a)
	}
	full.Tables = append(full.Tables, make([]impl.Table, 94)...)
	full.Sites = append(full.Sites, slices.Repeat([]impl.Site{site("x", -1, 0)}, 46)...)
	wantNothingShared(t, full, actNew())
	wantNothingShared(t, full, actSite("x"))
}

// What is handed in may share memory within itself; an answer never does.
func TestDoOfAStoreThatSharesWithinItself(t *testing.T) {
	vals, d := []impl.Value{num(1), num(2)}, dictOf(num(1), text("x"), num(2))
	s := storeOf(chain("x", "y"), record(2, vals...), record(1, vals[:1]...), record(2, vals...), dictTable(d), dictTable(d))
	s.Sites = []impl.Site{site("x", 2, 0)}
	before := showStore(s)
	for _, a := range []impl.Act{
		actNew(), {}, actGet(0, text("x")), actPut(0, text("x"), num(9)), actPut(1, text("y"), num(9)), actPut(1, text("z"), num(9)), actPut(2, num(1), num(9)),
		actPut(3, num(1), num(9)), actPut(3, num(3), num(9)), actPut(4, text("x"), nothing), actSetField(0, 0, num(9)), actSetField(0, 1, num(9)), actField(0, 4),
	} {
		done := impl.Do(s, a)
		if showStore(s) != before {
			t.Fatalf("%s: the store was changed", showAct(a))
		}
		if want := modelDo(s, a); showDone(done) != showDone(want) {
			t.Errorf("%s: got\n%s\nwant\n%s", showAct(a), showDone(done), showDone(want))
		}
		wantApart(t, showAct(a), spansOf("answer", done.Store))
	}
}
