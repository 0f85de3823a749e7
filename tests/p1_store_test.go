package tests

import (
	"fmt"
	"math"
	"slices"
	"strings"
	"testing"

	"loop.example/shuttle/impl"
)

func showStore(s impl.Store) string {
	var b strings.Builder
	for i, x := range s.Forest.Shapes {
		fmt.Fprintf(&b, "shape %d: %d %.40q of %d bytes, %d\n", i, x.Parent, x.Key, len(x.Key), x.Count)
	}
	for i, t := range s.Tables {
		fmt.Fprintf(&b, "table %d: shape %d", i, t.Shape)
		for _, v := range t.Vals {
			b.WriteString(showValue(v))
		}
		fmt.Fprintf(&b, " dict %s\n", show(t.Dict))
	}
	for i, x := range s.Sites {
		fmt.Fprintf(&b, "site %d: %.40q of %d bytes, %d %d %d %d\n", i, x.Key, len(x.Key), x.Shape, x.Place, x.Hits, x.Misses)
	}
	return b.String()
}

func copyOfStore(s impl.Store) impl.Store {
	s.Forest = copyOfForest(s.Forest)
	s.Tables = slices.Clone(s.Tables)
	for i, t := range s.Tables {
		s.Tables[i].Vals = slices.Clone(t.Vals)
		s.Tables[i].Dict = copyOf(t.Dict)
	}
	s.Sites = slices.Clone(s.Sites)
	return s
}

func spoilStore(s impl.Store, how func(s *impl.Store)) impl.Store {
	s = copyOfStore(s)
	how(&s)
	return s
}

func record(shape int, vals ...impl.Value) impl.Table {
	return impl.Table{Shape: shape, Vals: vals}
}

func dictTable(d impl.Dict) impl.Table {
	return impl.Table{Shape: -1, Dict: d}
}

func site(key string, shape, place int) impl.Site {
	return impl.Site{Key: key, Shape: shape, Place: place}
}

// someStore is sound and has tables of both kinds, among them one of shape 0 and one of the zero dict, and sites that found their field and such that did not.
func someStore() impl.Store {
	return impl.Store{
		Forest: someForest(),
		Tables: []impl.Table{
			record(4, num(7), text("seven"), float(0.5)),
			dictTable(without(dictOf(num(1), text("x"), num(2), float(0.5), num(9)), text("x"))),
			record(0),
			record(5, truth(0), thing(impl.KTable, 3)),
			dictTable(impl.Dict{}),
			record(1, builtin(3)),
		},
		Sites: []impl.Site{
			{Key: "y", Shape: 4, Place: 1, Hits: 3, Misses: 1},
			{Key: "nowhere", Shape: -1, Misses: 4},
			{Key: "x", Shape: 5, Place: 1, Hits: 2},
			{Key: "x", Shape: -1},
		},
	}
}

type storeRow struct {
	what string
	s    impl.Store
	want int
}

func checkStores(t *testing.T, rows []storeRow) {
	t.Helper()
	for _, r := range rows {
		before := showStore(r.s)
		if got := impl.StoreOk(r.s); got != r.want {
			t.Errorf("%s: %d, want %d", r.what, got, r.want)
		}
		if model := modelStoreOk(r.s); model != r.want {
			t.Errorf("%s: the second reading has %d, want %d", r.what, model, r.want)
		}
		if again := impl.StoreOk(r.s); again != r.want {
			t.Errorf("%s: %d the second time", r.what, again)
		}
		if showStore(r.s) != before {
			t.Errorf("%s: the store was changed", r.what)
		}
	}
}

// storesOf has the store with each of the forests in it, each of which is to answer the same.
func storesOf(forests []impl.Forest, tables []impl.Table, sites []impl.Site, want int) []storeRow {
	var rows []storeRow
	for _, f := range forests {
		what := fmt.Sprintf("forest rule %d, %d shapes, %d tables, %d sites", modelForestOk(f), len(f.Shapes), len(tables), len(sites))
		rows = append(rows, storeRow{what, impl.Store{Forest: f, Tables: tables, Sites: sites}, want})
	}
	return rows
}

func TestStoreSound(t *testing.T) {
	checkStores(t, []storeRow{
		{"Empty", impl.Empty(), 0},
		{"some store", someStore(), 0},
		{"empty lists", impl.Store{Forest: forestOf(), Tables: []impl.Table{}, Sites: []impl.Site{}}, 0},
		{"a full forest", impl.Store{Forest: wide(200)}, 0},
	})
}

func TestStoreRule1(t *testing.T) {
	broken := brokenForests()
	for rule := 1; rule <= 5; rule++ {
		if !slices.ContainsFunc(broken, func(f impl.Forest) bool { return modelForestOk(f) == rule }) {
			t.Errorf("no forest that breaks rule %d", rule)
		}
	}
	broken = append(broken,
		impl.Forest{Shapes: []impl.Shape{}},
		spoilForest(someForest(), func(shapes []impl.Shape) { shapes[0].Key = "x" }),
		spoilForest(someForest(), func(shapes []impl.Shape) { shapes[0].Count = 1 }),
		spoilForest(someForest(), func(shapes []impl.Shape) { shapes[5].Parent = -1 }),
		spoilForest(someForest(), func(shapes []impl.Shape) { shapes[5].Parent = 5 }),
		spoilForest(someForest(), func(shapes []impl.Shape) { shapes[5].Count++ }),
		spoilForest(someForest(), func(shapes []impl.Shape) { shapes[5].Key = tooLongKey }),
		spoilForest(someForest(), func(shapes []impl.Shape) { shapes[3].Key = "x" }),
		spoilForest(someForest(), func(shapes []impl.Shape) { shapes[5].Key = "y" }),
		chain(names(13)...),
	)
	checkStores(t, []storeRow{{"the zero value", impl.Store{}, 1}})
	checkStores(t, storesOf(broken, nil, nil, 1))
	checkStores(t, storesOf(broken, []impl.Table{record(0), dictTable(impl.Dict{})}, []impl.Site{site("x", -1, 0)}, 1))
	checkStores(t, storesOf(broken, someStore().Tables, someStore().Sites, 1))
}

func TestStoreRule2(t *testing.T) {
	sized := func(tables, sites int) impl.Store {
		return impl.Store{
			Forest: someForest(),
			Tables: slices.Repeat([]impl.Table{record(1, num(5))}, tables),
			Sites:  slices.Repeat([]impl.Site{site("y", 2, 1)}, sites),
		}
	}
	dicts := func(n int) impl.Store {
		return impl.Store{Forest: forestOf(), Tables: slices.Repeat([]impl.Table{dictTable(dictOf(num(1)))}, n)}
	}
	checkStores(t, []storeRow{
		{"99 tables", sized(99, 0), 0},
		{"100 tables", sized(100, 0), 0},
		{"101 tables", sized(101, 0), 2},
		{"100 tables with dicts", dicts(100), 0},
		{"101 tables with dicts", dicts(101), 2},
		{"49 sites", sized(0, 49), 0},
		{"50 sites", sized(0, 50), 0},
		{"51 sites", sized(0, 51), 2},
		{"100 tables and 50 sites", sized(100, 50), 0},
		{"101 tables and 50 sites", sized(101, 50), 2},
		{"100 tables and 51 sites", sized(100, 51), 2},
		{"101 tables and 51 sites", sized(101, 51), 2},
		{"51 tables and no site", sized(51, 0), 0},
		{"very many tables", sized(20000, 0), 2},
		{"very many sites", sized(0, 20000), 2},
	})
}

// tableRows has each table alone, ahead of sound ones and behind them.
func tableRows(what string, table impl.Table, want int) []storeRow {
	var rows []storeRow
	for at := range 3 {
		s := someStore()
		s.Tables = slices.Insert(s.Tables, at*len(s.Tables)/2, table)
		rows = append(rows, storeRow{fmt.Sprint(what, ", at ", at*len(s.Tables)/2), s, want})
	}
	alone := impl.Store{Forest: someForest(), Tables: []impl.Table{table}}
	return append(rows, storeRow{what + ", alone", alone, want})
}

func TestStoreRule3Shape(t *testing.T) {
	for _, shape := range []int{-2, -3, -6, -7, math.MinInt, 6, 7, 100, 200, math.MaxInt} {
		what := fmt.Sprint("shape ", shape)
		checkStores(t, tableRows(what, record(shape), 3))
		checkStores(t, tableRows(what+", a value", record(shape, num(1)), 3))
		checkStores(t, tableRows(what+", a dict", impl.Table{Shape: shape, Dict: dictOf(num(1))}, 3))
	}
	for shape := range someForest().Shapes {
		vals := slices.Repeat([]impl.Value{num(1)}, len(modelRow(someForest(), shape)))
		checkStores(t, tableRows(fmt.Sprint("shape ", shape), record(shape, vals...), 0))
	}
	checkStores(t, []storeRow{
		{"shape 0, where it is the only one", impl.Store{Forest: forestOf(), Tables: []impl.Table{record(0)}}, 0},
		{"shape 1, where 0 is the only one", impl.Store{Forest: forestOf(), Tables: []impl.Table{record(1)}}, 3},
		{"the last of 200", impl.Store{Forest: wide(200), Tables: []impl.Table{record(199, num(1))}}, 0},
		{"200 of 200", impl.Store{Forest: wide(200), Tables: []impl.Table{record(200, num(1))}}, 3},
	})
}

func TestStoreRule3Vals(t *testing.T) {
	f := someForest()
	for shape := range f.Shapes {
		count := len(modelRow(f, shape))
		for n := range 6 {
			want := 3
			if n == count {
				want = 0
			}
			vals := slices.Repeat([]impl.Value{num(1)}, n)
			checkStores(t, tableRows(fmt.Sprintf("%d values for shape %d", n, shape), record(shape, vals...), want))
		}
	}
	checkStores(t, tableRows("an empty list for shape 0", impl.Table{Shape: 0, Vals: []impl.Value{}}, 0))
	twelve := slices.Repeat([]impl.Value{num(1)}, 12)
	full := func(vals []impl.Value) impl.Store {
		return impl.Store{Forest: chain(names(12)...), Tables: []impl.Table{record(12, vals...)}}
	}
	checkStores(t, []storeRow{
		{"11 values for 12 fields", full(twelve[:11]), 3},
		{"12 values for 12 fields", full(twelve), 0},
		{"13 values for 12 fields", full(append(slices.Clone(twelve), num(1))), 3},
	})
}

func TestStoreRule3ValsThatAreWrong(t *testing.T) {
	wrong := []impl.Value{
		nothing, {Flt: negZero}, {Num: 1}, {Str: "x"}, {Ref: 1}, truth(2), truth(-1), builtin(-1), builtin(15),
		{Kind: 9}, {Kind: -1}, thing(impl.KTable, -1), thing(impl.KFn, -1), thing(impl.KTask, -1), text(tooLongKey),
		{Kind: impl.KInt, Num: 1, Ref: 1}, {Kind: impl.KStr, Num: 1}, {Kind: impl.KInt, Flt: math.NaN()},
	}
	right := []impl.Value{
		truth(0), truth(1), num(0), num(math.MinInt64), float(0), float(negZero), float(math.NaN()), float(math.Inf(-1)),
		text(""), text(longKey), thing(impl.KTable, 0), thing(impl.KFn, math.MaxInt), thing(impl.KTask, 1), builtin(0), builtin(14),
		{Kind: impl.KInt, Num: 1, Flt: negZero},
	}
	for place := range 3 {
		for i, v := range slices.Concat(wrong, right) {
			vals := []impl.Value{num(1), num(2), num(3)}
			vals[place] = v
			want := 3
			if i >= len(wrong) {
				want = 0
			}
			checkStores(t, tableRows(fmt.Sprintf("%.60s at %d", showValue(v), place), record(4, vals...), want))
		}
	}
}

func TestStoreRule3DictBesideAShape(t *testing.T) {
	for shape, vals := range map[int][]impl.Value{0: nil, 4: {num(1), num(2), num(3)}} {
		with := func(d impl.Dict) impl.Table { return impl.Table{Shape: shape, Vals: vals, Dict: d} }
		for what, d := range map[string]impl.Dict{
			"a dead pair":            {Log: make([]impl.Pair, 1)},
			"a pair":                 {Log: []impl.Pair{pair(num(1), num(1), 1)}},
			"a 0 in Ints":            {Ints: []int{0}},
			"a 1 in Ints":            {Ints: []int{1}},
			"zeros in Index":         {Index: make([]int, 8)},
			"one 0 in Index":         {Index: []int{0}},
			"Used 1":                 {Used: 1},
			"Used -1":                {Used: -1},
			"Live 1":                 {Live: 1},
			"Live -1":                {Live: -1},
			"Turns 1":                {Turns: 1},
			"Turns -1":               {Turns: -1},
			"Used and Live, sum 0":   {Used: 1, Live: -1},
			"Live and Turns, sum 0":  {Live: math.MinInt, Turns: math.MinInt},
			"a sound dict":           dictOf(num(1), text("x")),
			"a sound dict, no pairs": without(dictOf(text("x")), text("x")),
		} {
			checkStores(t, tableRows(fmt.Sprint("shape ", shape, ", ", what), with(d), 3))
		}
		empty := impl.Dict{Log: []impl.Pair{}, Ints: []int{}, Index: []int{}}
		checkStores(t, tableRows(fmt.Sprint("shape ", shape, ", empty lists"), with(empty), 0))
		room := impl.Dict{Log: make([]impl.Pair, 0, 4), Ints: make([]int, 0, 4), Index: make([]int, 0, 8)}
		checkStores(t, tableRows(fmt.Sprint("shape ", shape, ", empty lists with room"), with(room), 0))
	}
}

func TestStoreRule3WithoutAShape(t *testing.T) {
	sound := dictOf(num(1), text("x"), float(0.5))
	with := func(d impl.Dict, vals ...impl.Value) impl.Table { return impl.Table{Shape: -1, Vals: vals, Dict: d} }
	checkStores(t, slices.Concat(
		tableRows("a sound dict", with(sound), 0),
		tableRows("the zero dict", with(impl.Dict{}), 0),
		tableRows("a dict from which all went", with(without(dictOf(num(1), text("x")), num(1), text("x"))), 0),
		tableRows("a dict that counted turns alone", with(impl.Dict{Turns: mostTurns}), 0),
		tableRows("500 pairs", with(logOf(0, 500)), 0),
		tableRows("501 pairs", with(logOf(0, 501)), 3),
		tableRows("an empty list of values", impl.Table{Shape: -1, Vals: []impl.Value{}, Dict: sound}, 0),
		tableRows("a value", with(sound, num(1)), 3),
		tableRows("a nil value", with(sound, nothing), 3),
		tableRows("a value, the zero dict", with(impl.Dict{}, num(1)), 3),
		tableRows("twelve values", with(sound, slices.Repeat([]impl.Value{num(1)}, 12)...), 3),
	))
	rules := map[int]int{}
	for i, d := range changed(sound) {
		want := 0
		if rule := modelOk(d); rule != 0 {
			rules[rule]++
			want = 3
		}
		checkStores(t, []storeRow{{fmt.Sprint("change ", i), impl.Store{Forest: forestOf(), Tables: []impl.Table{record(0), with(d)}}, want}})
	}
	if len(rules) != 5 {
		t.Errorf("rules of dicts met: %v", rules)
	}
}

// siteRows has each site alone, ahead of sound ones and behind them, with tables and without.
func siteRows(what string, x impl.Site, want int) []storeRow {
	var rows []storeRow
	for at := range 3 {
		s := someStore()
		s.Sites = slices.Insert(s.Sites, at*len(s.Sites)/2, x)
		rows = append(rows, storeRow{fmt.Sprint(what, ", at ", at*len(s.Sites)/2), s, want})
	}
	alone := impl.Store{Forest: someForest(), Sites: []impl.Site{x}}
	return append(rows, storeRow{what + ", alone", alone, want})
}

func TestStoreRule4Key(t *testing.T) {
	checkStores(t, slices.Concat(
		siteRows("4000 bytes", site(longKey, -1, 0), 0),
		siteRows("4001 bytes", site(tooLongKey, -1, 0), 4),
		siteRows("4000 bytes in 2000 signs", site(strings.Repeat("é", 2000), -1, 0), 0),
		siteRows("4002 bytes in 2001 signs", site(strings.Repeat("é", 2001), -1, 0), 4),
		siteRows("the empty key", site("", -1, 0), 0),
		siteRows("no text in UTF-8", site("\xff\x00", -1, 0), 0),
	))
	long := impl.Store{Forest: chain("x", longKey), Sites: []impl.Site{site(longKey, 2, 1)}}
	checkStores(t, []storeRow{{"4000 bytes as a field", long, 0}})
}

func TestStoreRule4Counts(t *testing.T) {
	for n, want := range map[int]int{
		-1: 4, 0: 0, 1: 0, mostTurns - 1: 0, mostTurns: 0, mostTurns + 1: 4, math.MinInt: 4, math.MaxInt: 4,
	} {
		for _, x := range []impl.Site{site("w", -1, 0), site("y", 2, 1)} {
			hits, misses := x, x
			hits.Hits, misses.Misses = n, n
			checkStores(t, siteRows(fmt.Sprint("Hits ", n, ", shape ", x.Shape), hits, want))
			checkStores(t, siteRows(fmt.Sprint("Misses ", n, ", shape ", x.Shape), misses, want))
			both := x
			both.Hits, both.Misses = n, n
			checkStores(t, siteRows(fmt.Sprint("both ", n, ", shape ", x.Shape), both, want))
		}
	}
}

func TestStoreRule4WithoutAShape(t *testing.T) {
	checkStores(t, siteRows("place 0", site("x", -1, 0), 0))
	for _, place := range []int{-2, -1, 1, 2, 12, math.MinInt, math.MaxInt} {
		checkStores(t, siteRows(fmt.Sprint("place ", place), site("x", -1, place), 4))
	}
}

// Every key at every place of every shape, and of some that are not there.
func TestStoreRule4Shape(t *testing.T) {
	f := someForest()
	places := []int{math.MinInt, -2, -1, 0, 1, 2, 3, 4, math.MaxInt}
	for shape := range f.Shapes {
		for _, key := range []string{"x", "y", "z", "w", "X", "", "x\x00", longKey} {
			for _, place := range places {
				row := modelRow(f, shape)
				want := 4
				if place >= 0 && place < len(row) && row[place] == key {
					want = 0
				}
				checkStores(t, siteRows(fmt.Sprintf("%.9q at %d of shape %d", key, place, shape), site(key, shape, place), want))
			}
		}
	}
	for _, shape := range []int{-2, -3, -6, 6, 7, 200, math.MinInt, math.MaxInt} {
		for _, place := range []int{-1, 0, 1} {
			checkStores(t, siteRows(fmt.Sprintf("place %d of shape %d", place, shape), site("x", shape, place), 4))
		}
	}
}

func TestStoreRule4EdgesOfForests(t *testing.T) {
	with := func(f impl.Forest, x impl.Site) impl.Store { return impl.Store{Forest: f, Sites: []impl.Site{x}} }
	empty := forestOf(shape(0, "", 1), shape(1, "x", 2), shape(0, "x", 1), shape(3, "", 2))
	checkStores(t, []storeRow{
		{"the empty key alone", with(empty, site("", 1, 0)), 0},
		{"the empty key ahead", with(empty, site("", 2, 0)), 0},
		{"the empty key behind", with(empty, site("", 4, 1)), 0},
		{"the empty key where the other one is", with(empty, site("", 4, 0)), 4},
		{"the empty key, one place too far", with(empty, site("", 2, 1)), 4},
		{"the empty key at another shape", with(empty, site("", 3, 0)), 4},
		{"the empty key, shape 0", with(empty, site("", 0, 0)), 4},
		{"the empty key, shape 0, place -1", with(empty, site("", 0, -1)), 4},
		{"shape 0 alone", with(forestOf(), site("x", 0, 0)), 4},
		{"shape 1 where there is none", with(forestOf(), site("x", 1, 0)), 4},
		{"the last field of 12", with(chain(names(12)...), site("f11", 12, 11)), 0},
		{"a place behind 12 fields", with(chain(names(12)...), site("f11", 12, 12)), 4},
		{"the 12th field in a shape of 11", with(chain(names(12)...), site("f11", 11, 11)), 4},
		{"the first field of 12", with(chain(names(12)...), site("f0", 12, 0)), 0},
		{"the last of 200 shapes", with(wide(200), site("f198", 199, 0)), 0},
		{"200 of 200 shapes", with(wide(200), site("f198", 200, 0)), 4},
	})
}

// A shape stays in the forest when the tables that had it have dicts by now, and so does what a site found in it.
func TestStoreRule4ShapeOfNoTable(t *testing.T) {
	s := someStore()
	for i := range s.Tables {
		s.Tables[i] = dictTable(dictOf(text("x"), text("y"), num(1)))
	}
	checkStores(t, []storeRow{{"dicts alone", s, 0}})
	s.Tables = nil
	checkStores(t, []storeRow{{"no tables", s, 0}})
}

// Of two rules that fail, each is broken in a way that breaks no other.
func TestStoreFirstRule(t *testing.T) {
	breaks := []func(s *impl.Store){
		func(s *impl.Store) { s.Forest.Shapes = append(s.Forest.Shapes, shape(0, "x", 1)) },
		func(s *impl.Store) { s.Sites = append(s.Sites, slices.Repeat([]impl.Site{site("x", -1, 0)}, 51)...) },
		func(s *impl.Store) { s.Tables[1].Dict.Live++ },
		func(s *impl.Store) { s.Sites[0].Place++ },
	}
	for i, first := range breaks {
		checkStores(t, []storeRow{{fmt.Sprint(i+1, " alone"), spoilStore(someStore(), first), i + 1}})
		for j, second := range breaks[i+1:] {
			both := spoilStore(spoilStore(someStore(), second), first)
			checkStores(t, []storeRow{{fmt.Sprint(i+1, " and ", i+j+2), both, i + 1}})
		}
	}
	all := someStore()
	for _, b := range breaks {
		b(&all)
	}
	checkStores(t, []storeRow{
		{"all", all, 1},
		{"zero tables are of shape 0", impl.Store{Forest: forestOf(), Tables: make([]impl.Table, 100)}, 0},
		{"101 of them", impl.Store{Forest: forestOf(), Tables: make([]impl.Table, 101)}, 2},
		{"zero sites are of shape 0", impl.Store{Forest: forestOf(), Sites: make([]impl.Site, 50)}, 4},
		{"51 of them", impl.Store{Forest: forestOf(), Sites: make([]impl.Site, 51)}, 2},
		{"a forest of 201 shapes, 101 tables", impl.Store{Forest: wide(201), Tables: make([]impl.Table, 101)}, 1},
	})
}

// Every part of a sound store is changed to one that is often wrong, two at a time.
func TestStoreRulesAtManyChanges(t *testing.T) {
	seen := map[int]int{}
	r := dice(11)
	for range 20000 {
		s := copyOfStore(someStore())
		for range 1 + r.below(2) {
			changeStore(&s, &r)
		}
		want := modelStoreOk(s)
		if got := impl.StoreOk(s); got != want {
			t.Fatalf("%d, want %d:\n%s", got, want, showStore(s))
		}
		seen[want]++
	}
	for rule := range 5 {
		if seen[rule] < 100 {
			t.Errorf("rule %d was met %d times", rule, seen[rule])
		}
	}
}

func changeStore(s *impl.Store, r *dice) {
	keys := []string{"", "x", "y", "z", longKey, tooLongKey}
	vals := []impl.Value{nothing, num(1), text("x"), text(tooLongKey), float(math.NaN()), {Kind: 9}, {Flt: negZero}}
	table, x := &s.Tables[r.below(len(s.Tables))], &s.Sites[r.below(len(s.Sites))]
	switch r.below(12) {
	case 0:
		s.Forest.Shapes[r.below(len(s.Forest.Shapes))].Key = keys[r.below(len(keys))]
	case 1:
		s.Forest.Shapes[r.below(len(s.Forest.Shapes))].Parent = r.below(8) - 2
	case 2:
		s.Forest.Shapes = s.Forest.Shapes[:1+r.below(len(s.Forest.Shapes))]
	case 3:
		s.Tables = append(s.Tables, slices.Repeat([]impl.Table{*table}, 94+r.below(2))...)
	case 4:
		s.Sites = append(s.Sites, slices.Repeat([]impl.Site{*x}, 46+r.below(2))...)
	case 5:
		table.Shape = r.below(9) - 2
	case 6:
		table.Vals = append(table.Vals, vals[r.below(len(vals))])
	case 7:
		if len(table.Vals) > 0 {
			table.Vals[r.below(len(table.Vals))] = vals[r.below(len(vals))]
		}
	case 8:
		dicts := append(changed(dictOf(num(1), text("x"))), impl.Dict{})
		table.Dict = dicts[r.below(len(dicts))]
	case 9:
		x.Key = keys[r.below(len(keys))]
	case 10:
		x.Shape, x.Place = r.below(9)-2, r.below(5)-1
	case 11:
		counts := []int{-1, 0, 1, mostTurns, mostTurns + 1}
		x.Hits, x.Misses = counts[r.below(len(counts))], counts[r.below(len(counts))]
	}
}
