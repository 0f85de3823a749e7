package tests

import (
	"fmt"
	"math"
	"slices"
	"testing"

	"loop.example/shuttle/impl"
)

// Empty and PairsOf answer as chapter 3 says; what is written over an answer reaches neither an argument nor another answer.

func TestEmpty(t *testing.T) {
	s := impl.Empty()
	if len(s.Forest.Shapes) != 1 || s.Forest.Shapes[0] != shape(-1, "", 0) || len(s.Tables) != 0 || len(s.Sites) != 0 {
		t.Errorf("it has %s", showStore(s))
	}
	if rule := impl.StoreOk(s); rule != 0 {
		t.Errorf("it fails rule %d", rule)
	}
	for _, table := range []int{-1, 0, 1} {
		wantPairs(t, "Empty", s, table)
	}
}

func TestEmptySharesNothing(t *testing.T) {
	first, second := impl.Empty(), impl.Empty()
	scribbleStore(first)
	if !sameForest(second.Forest, forestOf()) {
		t.Errorf("one follows the other: %s", showStore(second))
	}
	if third := impl.Empty(); showStore(third) != showStore(second) {
		t.Errorf("another answer behind scribbling: %s", showStore(third))
	}
	for _, s := range []impl.Store{first, second} {
		grown := append(s.Forest.Shapes, shape(0, "x", 1))
		scribbleShapes(grown)
	}
	if third := impl.Empty(); !sameForest(third.Forest, forestOf()) {
		t.Errorf("another answer behind growing: %s", showStore(third))
	}
}

func scribbleTables(tables []impl.Table) {
	for i := range tables {
		t := &tables[i]
		scribbleVals(t.Vals)
		scribblePairs(t.Dict.Log)
		scribbleInts(t.Dict.Ints)
		scribbleInts(t.Dict.Index)
		*t = impl.Table{Shape: -7}
	}
}

func scribbleVals(vals []impl.Value) {
	for i := range vals[:cap(vals)] {
		vals[:cap(vals)][i] = text("scribble")
	}
}

func scribblePairs(pairs []impl.Pair) {
	for i := range pairs[:cap(pairs)] {
		pairs[:cap(pairs)][i] = pair(text("scribble"), text("scribble"), -7)
	}
}

func scribbleInts(row []int) {
	for i := range row[:cap(row)] {
		row[:cap(row)][i] = -7
	}
}

// scribbleStore writes over all that the lists of a store have room for.
func scribbleStore(s impl.Store) {
	scribbleShapes(s.Forest.Shapes)
	scribbleTables(s.Tables)
	for i := range s.Sites[:cap(s.Sites)] {
		s.Sites[:cap(s.Sites)][i] = site("scribble", -7, -7)
	}
}

func wantPairs(t *testing.T, what string, s impl.Store, table int, want ...impl.Pair) {
	t.Helper()
	before := showStore(s)
	got := impl.PairsOf(s, table)
	if showPairs(got) != showPairs(want) {
		t.Errorf("%s: the pairs of table %d: %.300q, want %.300q", what, table, showPairs(got), showPairs(want))
	}
	if model := modelPairsOf(s, table); showPairs(model) != showPairs(want) {
		t.Errorf("%s: the second reading has %.300q, want %.300q", what, showPairs(model), showPairs(want))
	}
	if again := impl.PairsOf(s, table); showPairs(again) != showPairs(want) {
		t.Errorf("%s: another answer the second time", what)
	}
	if showStore(s) != before {
		t.Errorf("%s: the store was changed", what)
	}
}

func TestPairsOfSomeStore(t *testing.T) {
	s := someStore()
	wantPairs(t, "three fields", s, 0, pair(text("x"), num(7), 1), pair(text("y"), text("seven"), 2), pair(text("z"), float(0.5), 3))
	wantPairs(t, "a dict", s, 1, pair(num(1), num(1), 1), pair(num(2), num(3), 3), pair(float(0.5), num(4), 4), pair(num(9), num(5), 5))
	wantPairs(t, "shape 0", s, 2)
	wantPairs(t, "two fields in another order", s, 3, pair(text("y"), truth(0), 1), pair(text("x"), thing(impl.KTable, 3), 2))
	wantPairs(t, "the zero dict", s, 4)
	wantPairs(t, "one field", s, 5, pair(text("x"), builtin(3), 1))
}

func TestPairsOfFields(t *testing.T) {
	twelve := impl.Store{Forest: chain(names(12)...)}
	var vals []impl.Value
	var pairs []impl.Pair
	for i, key := range names(12) {
		vals = append(vals, num(int64(100-i)))
		pairs = append(pairs, pair(text(key), vals[i], i+1))
	}
	for n := range 13 {
		twelve.Tables = append(twelve.Tables, record(n, vals[:n]...))
	}
	for n := range 13 {
		wantPairs(t, fmt.Sprint(n, " fields"), twelve, n, pairs[:n]...)
	}
	odd := impl.Store{Forest: chain("", longKey, "\xff"), Tables: []impl.Table{record(3, num(1), num(2), num(3)), record(1, num(4))}}
	wantPairs(t, "odd keys", odd, 0, pair(text(""), num(1), 1), pair(text(longKey), num(2), 2), pair(text("\xff"), num(3), 3))
	wantPairs(t, "the empty key alone", odd, 1, pair(text(""), num(4), 1))
}

func TestPairsOfValuesAsTheyCame(t *testing.T) {
	for _, v := range []impl.Value{
		float(negZero), float(0), float(math.NaN()), float(2), text(""), text(longKey), truth(0), num(math.MinInt64),
		{Kind: impl.KInt, Num: 3, Flt: negZero},
	} {
		s := impl.Store{Forest: chain("x"), Tables: []impl.Table{record(1, v), dictTable(impl.DictPut(impl.Dict{}, text("x"), v))}}
		wantPairs(t, "a field", s, 0, pair(text("x"), v, 1))
		wantPairs(t, "a dict", s, 1, pair(text("x"), v, 1))
	}
}

func TestPairsOfDicts(t *testing.T) {
	dicts := map[string]impl.Dict{
		"ints":                       dictOf(num(3), num(1), num(2), num(7)),
		"ints between strings":       dictOf(text("a"), num(1), text("b"), num(0), num(-4), num(2)),
		"all kinds of keys":          dictOf(truth(1), num(5), float(0.25), text("k"), thing(impl.KFn, 2), builtin(4), float(math.Inf(1))),
		"the first went":             without(dictOf(num(1), num(2), text("x")), num(1)),
		"the last went":              without(dictOf(num(1), num(2), text("x")), text("x")),
		"one went and came again":    impl.DictPut(without(dictOf(num(1), text("x"), num(2)), num(1)), num(1), truth(1)),
		"all went":                   without(dictOf(num(1), text("x")), num(1), text("x")),
		"dead pairs ahead":           logOf(5, 3),
		"dead pairs alone":           logOf(8, 0),
		"500 pairs":                  logOf(0, 500),
		"500 pairs and as many dead": logOf(500, 500),
		"turns with gaps":            {Log: []impl.Pair{pair(num(1), num(7), 3), {}, pair(num(2), num(8), mostTurns)}, Ints: []int{1, 3}, Live: 2, Turns: mostTurns},
	}
	for what, d := range dicts {
		var want []impl.Pair
		for _, p := range d.Log {
			if p.Turn > 0 {
				want = append(want, p)
			}
		}
		if len(want) != d.Live {
			t.Fatalf("%s: %d pairs, %d live", what, len(want), d.Live)
		}
		s := impl.Store{Forest: someForest(), Tables: []impl.Table{record(0), dictTable(d), record(1, num(1))}}
		wantPairs(t, what, s, 1, want...)
	}
}

func TestPairsOfNoTable(t *testing.T) {
	for _, s := range []impl.Store{someStore(), impl.Empty(), {Forest: someForest(), Tables: slices.Repeat([]impl.Table{record(1, num(1))}, 100)}} {
		n := len(s.Tables)
		for _, table := range []int{-1, -2, -n - 1, n, n + 1, 100, 101, math.MinInt, math.MaxInt} {
			wantPairs(t, fmt.Sprint(n, " tables"), s, table)
		}
		if n > 0 && len(impl.PairsOf(s, n-1)) == 0 {
			t.Error("the last table has no pairs")
		}
	}
}

// Each table that is asked for is sound in itself.
func TestPairsOfStoresThatAreNotSound(t *testing.T) {
	rules := map[int]int{}
	for what, how := range map[string]func(s *impl.Store){
		"a forest with twins":       func(s *impl.Store) { s.Forest.Shapes = append(s.Forest.Shapes, shape(0, "x", 1)) },
		"no shapes":                 func(s *impl.Store) { s.Forest.Shapes = nil },
		"101 tables":                func(s *impl.Store) { s.Tables = append(s.Tables, make([]impl.Table, 95)...) },
		"51 sites":                  func(s *impl.Store) { s.Sites = append(s.Sites, slices.Repeat([]impl.Site{site("x", -1, 0)}, 47)...) },
		"a shape that is not there": func(s *impl.Store) { s.Tables = append(s.Tables, record(6)) },
		"a value too many":          func(s *impl.Store) { s.Tables = append(s.Tables, record(0, num(1))) },
		"a dict beside a shape":     func(s *impl.Store) { s.Tables = append(s.Tables, impl.Table{Dict: dictOf(num(1))}) },
		"values beside a dict":      func(s *impl.Store) { s.Tables = append(s.Tables, impl.Table{Shape: -1, Vals: []impl.Value{num(1)}}) },
		"a dict that is not sound":  func(s *impl.Store) { s.Tables = append(s.Tables, dictTable(impl.Dict{Live: 1})) },
		"a site at another place":   func(s *impl.Store) { s.Sites[0].Place = 0 },
		"a site below 0":            func(s *impl.Store) { s.Sites[1].Hits = -1 },
	} {
		s := spoilStore(someStore(), how)
		rules[impl.StoreOk(s)]++
		for table := -1; table <= len(s.Tables); table++ {
			wantPairs(t, what, s, table)
		}
	}
	for rule := 1; rule <= 4; rule++ {
		if rules[rule] == 0 {
			t.Errorf("rule %d was not met", rule)
		}
	}
	wantPairs(t, "the zero value", impl.Store{}, 0)
}

// roomyStore is a copy whose lists have room behind them, in which something would be seen.
func roomyStore(s impl.Store) impl.Store {
	s = copyOfStore(s)
	s.Forest.Shapes = slices.Grow(s.Forest.Shapes, 8)
	s.Tables = slices.Grow(s.Tables, 8)
	s.Sites = slices.Grow(s.Sites, 8)
	for i := range s.Tables {
		t := &s.Tables[i]
		t.Vals = slices.Grow(t.Vals, 8)
		t.Dict.Log = slices.Grow(t.Dict.Log, 8)
		t.Dict.Ints = slices.Grow(t.Dict.Ints, 8)
		t.Dict.Index = slices.Grow(t.Dict.Index, 8)
	}
	return s
}

// stretched is the store with its lists as long as there is room in them.
func stretched(s impl.Store) impl.Store {
	s.Forest.Shapes = s.Forest.Shapes[:cap(s.Forest.Shapes)]
	s.Tables = slices.Clone(s.Tables[:cap(s.Tables)])
	s.Sites = s.Sites[:cap(s.Sites)]
	for i := range s.Tables {
		t := &s.Tables[i]
		t.Vals = t.Vals[:cap(t.Vals)]
		t.Dict.Log = t.Dict.Log[:cap(t.Dict.Log)]
		t.Dict.Ints = t.Dict.Ints[:cap(t.Dict.Ints)]
		t.Dict.Index = t.Dict.Index[:cap(t.Dict.Index)]
	}
	return s
}

func TestPairsOfSharesNothing(t *testing.T) {
	for table := range someStore().Tables {
		s := roomyStore(someStore())
		behind := showStore(stretched(s))
		pairs := impl.PairsOf(s, table)
		if rule := impl.StoreOk(s); rule != 0 {
			t.Errorf("table %d: rule %d", table, rule)
		}
		if showStore(stretched(s)) != behind {
			t.Errorf("table %d: something was written behind a list", table)
		}
		want := showPairs(modelPairsOf(someStore(), table))
		other := impl.PairsOf(s, table)
		scribblePairs(other)
		if showStore(stretched(s)) != behind {
			t.Errorf("table %d: the store follows the answer", table)
		}
		if showPairs(pairs) != want {
			t.Errorf("table %d: one answer follows another", table)
		}
		scribbleStore(s)
		if showPairs(pairs) != want {
			t.Errorf("table %d: the answer follows the store", table)
		}
	}
}

// Stores by chance, many of them sound, against the second reading.
func TestPairsOfInLongRuns(t *testing.T) {
	met := map[string]int{}
	r := dice(17)
	for range 3000 {
		s := chanceStore(&r)
		if r.below(3) == 0 && len(s.Tables) > 0 && len(s.Sites) > 0 {
			changeStore(&s, &r)
		}
		what := showStore(s)
		for table := -1; table <= min(len(s.Tables), 8); table++ {
			wantPairs(t, what, s, table, modelPairsOf(s, table)...)
			met[kindOfPairs(s, table)]++
		}
		if t.Failed() {
			return
		}
	}
	for _, kind := range []string{"not sound", "no such table", "a dict", "fields"} {
		if met[kind] < 500 {
			t.Errorf("%s: met %d times", kind, met[kind])
		}
	}
}

func kindOfPairs(s impl.Store, table int) string {
	switch {
	case modelStoreOk(s) != 0:
		return "not sound"
	case table < 0 || table >= len(s.Tables):
		return "no such table"
	case s.Tables[table].Shape < 0:
		return "a dict"
	}
	return "fields"
}

// chanceStore is sound.
func chanceStore(r *dice) impl.Store {
	s := impl.Store{Forest: forestOf()}
	keys := append(names(5), "", "x")
	for range r.below(12) {
		if g := modelGrow(s.Forest, r.below(len(s.Forest.Shapes)), keys[r.below(len(keys))]); g.Shape >= 0 {
			s.Forest = g.Forest
		}
	}
	for range r.below(5) {
		if r.below(2) == 0 {
			s.Tables = append(s.Tables, dictTable(chanceDict(r)))
			continue
		}
		shape := r.below(len(s.Forest.Shapes))
		var vals []impl.Value
		for range modelRow(s.Forest, shape) {
			vals = append(vals, num(int64(r.below(100))))
		}
		s.Tables = append(s.Tables, record(shape, vals...))
	}
	for range r.below(4) {
		shape := r.below(len(s.Forest.Shapes))
		if row := modelRow(s.Forest, shape); len(row) > 0 {
			place := r.below(len(row))
			s.Sites = append(s.Sites, site(row[place], shape, place))
		} else {
			s.Sites = append(s.Sites, site("x", -1, 0))
		}
	}
	return s
}

func chanceDict(r *dice) impl.Dict {
	keys := []impl.Value{num(1), num(2), num(3), num(4), num(8), text("x"), text(""), float(0.5), truth(1), float(2)}
	d := impl.Dict{}
	for range r.below(25) {
		v := num(int64(r.below(100)))
		if r.below(3) == 0 {
			v = nothing
		}
		d = modelPut(d, keys[r.below(len(keys))], v)
	}
	return d
}
