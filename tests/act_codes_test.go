package tests

import (
	"fmt"
	"math"
	"slices"
	"testing"

	"loop.example/shuttle/impl"
)

// The codes of chapter 4, their order, and the limits that lead to TooMany.

func actNew() impl.Act                       { return impl.Act{Op: impl.ANew} }
func actPut(t int, k, v impl.Value) impl.Act { return impl.Act{Op: impl.APut, T: t, K: k, V: v} }
func actGet(t int, k impl.Value) impl.Act    { return impl.Act{Op: impl.AGet, T: t, K: k} }
func actAfter(t, n int) impl.Act             { return impl.Act{Op: impl.AAfter, T: t, N: n} }
func actLen(t int) impl.Act                  { return impl.Act{Op: impl.ALen, T: t} }
func actCount(t int) impl.Act                { return impl.Act{Op: impl.ACount, T: t} }
func actSite(key string) impl.Act            { return impl.Act{Op: impl.ASite, K: text(key)} }
func actField(site, t int) impl.Act          { return impl.Act{Op: impl.AField, Site: site, T: t} }
func actSetField(site, t int, v impl.Value) impl.Act {
	return impl.Act{Op: impl.ASetField, Site: site, T: t, V: v}
}

func coded(code int) impl.Ans   { return impl.Ans{Code: code} }
func numbered(n int) impl.Ans   { return impl.Ans{Num: n} }
func val(v impl.Value) impl.Ans { return impl.Ans{Val: v} }
func storeOf(f impl.Forest, tables ...impl.Table) impl.Store {
	return impl.Store{Forest: f, Tables: tables}
}

func showDone(d impl.Done) string {
	return fmt.Sprintf("code %d num %d key %s val %s\n%s", d.Ans.Code, d.Ans.Num, showValue(d.Ans.Key), showValue(d.Ans.Val), showStore(d.Store))
}

// wantDone holds an act against what is wanted and against the second reading, and answers the store behind it.
func wantDone(t *testing.T, what string, s impl.Store, a impl.Act, ans impl.Ans, behind impl.Store) impl.Store {
	t.Helper()
	before, want := showStore(s), showDone(impl.Done{Store: behind, Ans: ans})
	done := impl.Do(s, a)
	if got := showDone(done); got != want {
		t.Errorf("%s: %s: got\n%.2000s\nwant\n%.2000s", what, showAct(a), got, want)
	}
	if model := showDone(modelDo(s, a)); model != want {
		t.Errorf("%s: %s: the second reading has\n%.2000s\nwant\n%.2000s", what, showAct(a), model, want)
	}
	if again := showDone(impl.Do(s, a)); again != want {
		t.Errorf("%s: %s: another answer the second time", what, showAct(a))
	}
	if showStore(s) != before {
		t.Errorf("%s: %s: the store was changed", what, showAct(a))
	}
	if rule := impl.StoreOk(done.Store); rule != 0 && impl.StoreOk(s) == 0 {
		t.Errorf("%s: %s: the store behind it fails rule %d", what, showAct(a), rule)
	}
	return done.Store
}

// wantSame is for acts behind which the store is as it was.
func wantSame(t *testing.T, what string, s impl.Store, a impl.Act, ans impl.Ans) {
	t.Helper()
	wantDone(t, what, s, a, ans, s)
}

// oneOfEach has a right act of each Op, for a store with that table and that site.
func oneOfEach(table, site int) []impl.Act {
	return []impl.Act{
		actNew(), actPut(table, text("x"), num(1)), actGet(table, text("x")), actAfter(table, 0), actLen(table), actCount(table),
		actSite("x"), actField(site, table), actSetField(site, table, num(1)),
	}
}

func TestDoOfStoresThatAreNotSound(t *testing.T) {
	rules := map[int]int{}
	for what, how := range map[string]func(s *impl.Store){
		"a forest with twins":      func(s *impl.Store) { s.Forest.Shapes = append(s.Forest.Shapes, shape(0, "x", 1)) },
		"no shapes":                func(s *impl.Store) { s.Forest.Shapes = nil },
		"101 tables":               func(s *impl.Store) { s.Tables = append(s.Tables, make([]impl.Table, 95)...) },
		"51 sites":                 func(s *impl.Store) { s.Sites = append(s.Sites, slices.Repeat([]impl.Site{site("x", -1, 0)}, 47)...) },
		"a value too many":         func(s *impl.Store) { s.Tables = append(s.Tables, record(0, num(1))) },
		"a dict that is not sound": func(s *impl.Store) { s.Tables = append(s.Tables, dictTable(impl.Dict{Live: 1})) },
		"a nil among values":       func(s *impl.Store) { s.Tables[0].Vals[1] = nothing },
		"a site at another place":  func(s *impl.Store) { s.Sites[0].Place = 0 },
		"a site below 0":           func(s *impl.Store) { s.Sites[1].Hits = -1 },
	} {
		s := spoilStore(someStore(), how)
		rules[impl.StoreOk(s)]++
		acts := append(oneOfEach(0, 0), oneOfEach(99, 49)...)
		for _, a := range append(acts, impl.Act{}, impl.Act{Op: 10}, actPut(0, nothing, num(1))) {
			wantDone(t, what, s, a, impl.Ans{}, impl.Store{})
		}
	}
	for rule := 1; rule <= 4; rule++ {
		if rules[rule] == 0 {
			t.Errorf("rule %d was not met", rule)
		}
	}
	wantDone(t, "the zero value", impl.Store{}, actNew(), impl.Ans{}, impl.Store{})
}

func TestNotAct(t *testing.T) {
	for _, s := range []impl.Store{impl.Empty(), someStore()} {
		for _, a := range []impl.Act{
			{}, {Op: -1}, {Op: 10}, {Op: math.MaxInt},
			{Op: impl.ANew, T: 1}, {Op: impl.ANew, Site: 1}, {Op: impl.ANew, N: 1}, {Op: impl.ANew, K: text("x")}, {Op: impl.ANew, V: num(1)},
			actPut(-1, num(1), num(1)), actPut(100, num(1), num(1)), actPut(0, impl.Value{Kind: 9}, num(1)), actPut(0, num(1), truth(2)),
			actPut(0, text(tooLongKey), num(1)), actPut(0, num(1), text(tooLongKey)),
			{Op: impl.AGet, K: num(1), V: num(1)}, actGet(0, impl.Value{Num: 1}), actAfter(0, -1), actAfter(0, mostTurns+1), actAfter(100, 0),
			{Op: impl.ALen, N: 1}, {Op: impl.ACount, K: num(1)}, actLen(-1), actCount(100),
			{Op: impl.ASite}, {Op: impl.ASite, K: num(1)}, actSite(tooLongKey), {Op: impl.ASite, K: text("x"), T: 1},
			actField(50, 0), actField(-1, 0), actField(0, 100), {Op: impl.AField, V: num(1)},
			actSetField(50, 0, num(1)), actSetField(0, -1, num(1)), actSetField(0, 0, builtin(15)), {Op: impl.ASetField, K: text("x")},
		} {
			wantSame(t, "not an act", s, a, coded(impl.NotAct))
		}
	}
}

func TestNoTable(t *testing.T) {
	for n, s := range map[int]impl.Store{0: impl.Empty(), 6: someStore()} {
		s.Sites = someStore().Sites
		if n == 0 {
			s.Sites = []impl.Site{site("x", -1, 0)}
		}
		for _, table := range []int{n, n + 1, 99} {
			for _, a := range []impl.Act{
				actPut(table, text("x"), num(1)), actPut(table, text("x"), nothing), actGet(table, num(1)), actAfter(table, 3), actLen(table),
				actCount(table), actField(0, table), actSetField(0, table, num(1)), actSetField(0, table, nothing),
			} {
				wantSame(t, fmt.Sprint(n, " tables"), s, a, coded(impl.NoTable))
			}
		}
		if n > 0 {
			wantSame(t, "the last table", s, actCount(n-1), numbered(1))
		}
	}
	all := storeOf(forestOf(), make([]impl.Table, 100)...)
	wantSame(t, "the last of 100 tables", all, actCount(99), numbered(0))
}

func TestNoSite(t *testing.T) {
	s := someStore()
	for _, n := range []int{4, 5, 49} {
		for table := range s.Tables {
			wantSame(t, "4 sites", s, actField(n, table), coded(impl.NoSite))
			wantSame(t, "4 sites", s, actSetField(n, table, num(1)), coded(impl.NoSite))
			wantSame(t, "4 sites", s, actSetField(n, table, nothing), coded(impl.NoSite))
		}
	}
	none := storeOf(forestOf(), record(0))
	wantSame(t, "no sites", none, actField(0, 0), coded(impl.NoSite))
	wantSame(t, "no sites", none, actSetField(0, 0, num(1)), coded(impl.NoSite))
	full := storeOf(forestOf(), record(0))
	full.Sites = slices.Repeat([]impl.Site{site("x", -1, 0)}, 50)
	behind := spoilStore(full, func(s *impl.Store) { s.Sites[49].Misses = 1 })
	wantDone(t, "the last of 50 sites", full, actField(49, 0), impl.Ans{}, behind)
}

func TestBadKey(t *testing.T) {
	s := someStore()
	for table := range s.Tables {
		for _, k := range []impl.Value{nothing, {Flt: negZero}, float(math.NaN())} {
			wantSame(t, "no key", s, actGet(table, k), coded(impl.BadKey))
			wantSame(t, "no key", s, actPut(table, k, num(1)), coded(impl.BadKey))
			wantSame(t, "no key", s, actPut(table, k, nothing), coded(impl.BadKey))
		}
	}
}

// fullDict has 500 pairs, and among their keys no string.
func fullDict() impl.Dict { return logOf(0, 500) }

// spentDict has one pair, and has counted all the turns that there are.
func spentDict() impl.Dict {
	return spoil(dictOf(text("x")), func(d *impl.Dict) { d.Turns = mostTurns })
}

// An act that would meet two codes answers the one that is looked for first.
func TestCodesInOrder(t *testing.T) {
	s := storeOf(forestOf(), dictTable(fullDict()), dictTable(spentDict()))
	s.Sites = []impl.Site{site("new", -1, 0)}
	wrong := impl.Value{Kind: 9}
	for _, c := range []struct {
		what string
		a    impl.Act
		want int
	}{
		{"no act, no table", impl.Act{Op: impl.ALen, T: 2, N: 1}, impl.NotAct},
		{"no act, no site", impl.Act{Op: impl.AField, Site: 1, N: 1}, impl.NotAct},
		{"no act, no key", impl.Act{Op: impl.AGet, V: num(1)}, impl.NotAct},
		{"no act for its value, no key", actPut(0, nothing, wrong), impl.NotAct},
		{"no act for its value, too many", actPut(0, text("new"), wrong), impl.NotAct},
		{"no act, no table, no site, too many", actSetField(50, 2, num(1)), impl.NotAct},
		{"no table, no site", actField(1, 2), impl.NoTable},
		{"no table, no site, to write", actSetField(1, 2, num(1)), impl.NoTable},
		{"no table, no key", actGet(2, nothing), impl.NoTable},
		{"no table, no key, to write", actPut(2, float(math.NaN()), num(1)), impl.NoTable},
		{"no site, a full dict", actSetField(1, 0, num(1)), impl.NoSite},
		{"no key, a full dict", actPut(0, nothing, num(1)), impl.BadKey},
		{"no key, a spent dict", actPut(1, float(math.NaN()), num(1)), impl.BadKey},
		{"a full dict", actPut(0, text("new"), num(1)), impl.TooMany},
		{"a spent dict", actPut(1, text("new"), num(1)), impl.TooMany},
	} {
		wantSame(t, c.what, s, c.a, coded(c.want))
	}
	if impl.NotAct != 1 || impl.NoTable != 2 || impl.NoSite != 3 || impl.BadKey != 4 || impl.TooMany != 5 {
		t.Error("the numbers of the codes are others")
	}
}

func TestNewTables(t *testing.T) {
	s := impl.Empty()
	for n := range 100 {
		behind := spoilStore(s, func(s *impl.Store) { s.Tables = append(s.Tables, record(0)) })
		s = wantDone(t, fmt.Sprint(n, " tables"), s, actNew(), numbered(n), behind)
	}
	wantSame(t, "100 tables", s, actNew(), coded(impl.TooMany))
	some := someStore()
	behind := spoilStore(some, func(s *impl.Store) { s.Tables = append(s.Tables, record(0)) })
	wantDone(t, "some store", some, actNew(), numbered(6), behind)
	some.Sites = slices.Repeat(some.Sites[:1], 50)
	behind.Sites = some.Sites
	wantDone(t, "50 sites", some, actNew(), numbered(6), behind)
}

func TestNewSites(t *testing.T) {
	s := storeOf(chain("k"), record(1, num(1)))
	keys := append([]string{"", "k", "k", longKey, "\xff\x00"}, names(50)...)
	for n := range 50 {
		behind := spoilStore(s, func(s *impl.Store) { s.Sites = append(s.Sites, site(keys[n], -1, 0)) })
		s = wantDone(t, fmt.Sprint(n, " sites"), s, actSite(keys[n]), numbered(n), behind)
	}
	wantSame(t, "50 sites", s, actSite("k"), coded(impl.TooMany))
	wantSame(t, "50 sites", s, actSite(""), coded(impl.TooMany))
	some := someStore()
	some.Tables = slices.Repeat(some.Tables[:1], 100)
	behind := spoilStore(some, func(s *impl.Store) { s.Sites = append(s.Sites, site("y", -1, 0)) })
	wantDone(t, "100 tables", some, actSite("y"), numbered(4), behind)
	odd := impl.Act{Op: impl.ASite, K: signed(text("y"))}
	wantDone(t, "a zero below 0 beside the string", some, odd, numbered(4), behind)
}

// A table without a shape, behind a put.
func putBehind(s impl.Store, t int, k, v impl.Value) impl.Store {
	return spoilStore(s, func(s *impl.Store) { s.Tables[t].Dict = modelPut(s.Tables[t].Dict, k, v) })
}

func TestDictOfMaxPairs(t *testing.T) {
	keys := []impl.Value{text("new"), num(501), num(0), float(0.5), float(700), truth(1)}
	almost := storeOf(forestOf(), record(0), dictTable(logOf(0, 499)))
	full := storeOf(forestOf(), record(0), dictTable(fullDict()))
	for _, k := range keys {
		s := wantDone(t, "499 pairs", almost, actPut(1, k, num(5)), impl.Ans{}, putBehind(almost, 1, k, num(5)))
		wantSame(t, "500 pairs by now", s, actCount(1), numbered(500))
		wantSame(t, "500 pairs by now", s, actPut(1, text("further"), num(5)), coded(impl.TooMany))
		wantSame(t, "500 pairs", full, actPut(1, k, num(5)), coded(impl.TooMany))
		wantSame(t, "500 pairs, nil", full, actPut(1, k, nothing), impl.Ans{})
		wantSame(t, "500 pairs, read", full, actGet(1, k), impl.Ans{})
	}
	for _, k := range []impl.Value{num(1), num(500), float(250)} {
		wantDone(t, "500 pairs, an old key", full, actPut(1, k, text("v")), impl.Ans{}, putBehind(full, 1, k, text("v")))
		s := wantDone(t, "500 pairs, an old key goes", full, actPut(1, k, nothing), impl.Ans{}, putBehind(full, 1, k, nothing))
		wantDone(t, "499 pairs again", s, actPut(1, text("new"), num(1)), impl.Ans{}, putBehind(s, 1, text("new"), num(1)))
	}
}

func TestDictOfMostTurns(t *testing.T) {
	last := spoil(dictOf(text("x"), num(1)), func(d *impl.Dict) { d.Turns = mostTurns - 1 })
	almost := storeOf(forestOf(), dictTable(last))
	spent := storeOf(forestOf(), dictTable(spentDict()))
	empty := storeOf(forestOf(), dictTable(impl.Dict{Turns: mostTurns}))
	for _, k := range []impl.Value{text("new"), num(2), num(77), float(3)} {
		s := wantDone(t, "one turn left", almost, actPut(0, k, num(5)), impl.Ans{}, putBehind(almost, 0, k, num(5)))
		key, _ := modelKey(k)
		wantSame(t, "the last turn", s, actAfter(0, mostTurns-1), impl.Ans{Num: mostTurns, Key: key, Val: num(5)})
		wantSame(t, "the last turn", s, actAfter(0, mostTurns), impl.Ans{})
		wantSame(t, "no turn left by now", s, actPut(0, text("further"), num(5)), coded(impl.TooMany))
		wantSame(t, "no turn left", spent, actPut(0, k, num(5)), coded(impl.TooMany))
		wantSame(t, "no turn left, nil", spent, actPut(0, k, nothing), impl.Ans{})
		wantSame(t, "no turn left, no pairs", empty, actPut(0, k, num(5)), coded(impl.TooMany))
		wantSame(t, "no turn left, no pairs, nil", empty, actPut(0, k, nothing), impl.Ans{})
	}
	wantDone(t, "an old key", spent, actPut(0, text("x"), num(5)), impl.Ans{}, putBehind(spent, 0, text("x"), num(5)))
	s := wantDone(t, "an old key goes", spent, actPut(0, text("x"), nothing), impl.Ans{}, putBehind(spent, 0, text("x"), nothing))
	wantSame(t, "it can't come back", s, actPut(0, text("x"), num(1)), coded(impl.TooMany))
}

// A dict that is loose is not made tight by an act that has a code.
func TestTooManyLeavesALooseDict(t *testing.T) {
	loose := spoil(logOf(5, 3), func(d *impl.Dict) { d.Turns = mostTurns })
	s := storeOf(forestOf(), dictTable(loose))
	wantSame(t, "a loose dict", s, actPut(0, text("new"), num(1)), coded(impl.TooMany))
	wantSame(t, "a loose dict, nil", s, actPut(0, text("new"), nothing), impl.Ans{})
	wantSame(t, "a loose dict, read", s, actGet(0, num(1)), val(truth(1)))
}
