package tests

import (
	"fmt"
	"slices"
	"testing"

	"loop.example/shuttle/impl"
)

// P9: for every script of at most MaxActs acts Play answers what Ideally answers, and the pairs of its tables are those of the plain ones.

// scriptOf draws n acts, each by what was drawn so far: the tables and sites that there are by then.
func scriptOf(n int, draw func(so impl.Store) impl.Act) []impl.Act {
	var acts []impl.Act
	so := impl.Store{}
	for range n {
		a := draw(so)
		if a == actNew() && len(so.Tables) < 100 {
			so.Tables = append(so.Tables, impl.Table{})
		}
		if a.Op == impl.ASite && modelActOk(a) && len(so.Sites) < 50 {
			so.Sites = append(so.Sites, impl.Site{})
		}
		acts = append(acts, a)
	}
	return acts
}

func chanceScript(r *dice, n int) []impl.Act {
	return scriptOf(n, func(so impl.Store) impl.Act { return chanceAct(r, so) })
}

// withoutSites is a script whose fields are read and written by their keys.
func withoutSites(acts []impl.Act) []impl.Act {
	var sites []impl.Value
	var list []impl.Act
	for _, a := range acts {
		switch {
		case a.Op == impl.ASite && modelActOk(a) && len(sites) < 50:
			sites = append(sites, a.K)
		case a.Op == impl.AField && a.Site >= 0 && a.Site < len(sites):
			list = append(list, actGet(a.T, sites[a.Site]))
		case a.Op == impl.ASetField && a.Site >= 0 && a.Site < len(sites):
			list = append(list, actPut(a.T, sites[a.Site], a.V))
		case a.Op != impl.ASite:
			list = append(list, a)
		}
	}
	return list
}

func TestScriptsByChance(t *testing.T) {
	r := dice(51)
	codes := map[string]int{}
	for i := range 60 {
		acts := chanceScript(&r, []int{1, 10, 60, 300, 1000, 1000}[i%6])
		played, _ := wantScript(t, fmt.Sprint("script ", i), acts)
		for _, a := range played.Ans {
			codes[fmt.Sprint("code ", a.Code)]++
		}
		played, _ = wantScript(t, fmt.Sprint("script ", i, " without sites"), withoutSites(acts))
		if len(played.Store.Sites) != 0 {
			t.Fatal("it has sites")
		}
	}
	wantMet(t, codes, 100, "code 0", "code 1", "code 2", "code 3", "code 4")
}

// oddly puts a zero below 0 beside half of the values that have no use for a float.
func oddly(r *dice, acts []impl.Act) []impl.Act {
	acts = slices.Clone(acts)
	for i := range acts {
		for _, v := range []*impl.Value{&acts[i].K, &acts[i].V} {
			if v.Kind != impl.KFlt && r.below(2) == 0 {
				*v = signed(*v)
			}
		}
	}
	return acts
}

func TestScriptsWithZerosBesideTheirValues(t *testing.T) {
	r := dice(52)
	for i := range 20 {
		acts := [][]impl.Act{chanceScript(&r, 700), recordActs(&r, 700), crowdActs(&r, 700, 30), wholeHouse()}[i%4]
		acts = oddly(&r, acts)
		wantScript(t, fmt.Sprint("script ", i), acts)
		wantByModel(t, fmt.Sprint("script ", i), acts)
	}
}

// recordActs draws acts on tables that are used as records: they mostly get the same fields in the same order, and few lose their shape.
func recordActs(r *dice, n int) []impl.Act {
	fields := names(14)
	filled := map[int]int{}
	return scriptOf(n, func(so impl.Store) impl.Act {
		table, site := r.below(max(len(so.Tables), 1)), r.below(max(len(so.Sites), 1))
		v := num(int64(r.below(1000)))
		switch x := r.below(100); {
		case x < 3 || len(so.Tables) == 0:
			return actNew()
		case x < 4 || len(so.Sites) == 0:
			return actSite(fields[r.below(5)])
		case x < 50:
			// Most tables stay at five fields, so that many are of one shape.
			at := filled[table]
			if at < 5 || at < 14 && table%5 == 0 {
				filled[table]++
			} else {
				at = r.below(at)
			}
			return actPut(table, text(fields[at]), v)
		case x < 80:
			return actField(site, table)
		case x < 90:
			return actSetField(site, table, v)
		case x < 91:
			return actPut(table, text(fields[r.below(len(fields))]), []impl.Value{nothing, v}[r.below(2)])
		case x < 92:
			return actPut(table, num(int64(r.below(3))), []impl.Value{nothing, v}[r.below(2)])
		}
		return actAfter(table, r.below(15))
	})
}

func TestScriptsOnRecords(t *testing.T) {
	r := dice(53)
	met := map[string]int{}
	for i := range 25 {
		acts := recordActs(&r, 1000)
		played, _ := wantScript(t, fmt.Sprint("script ", i), acts)
		wantScript(t, fmt.Sprint("script ", i, " without sites"), withoutSites(acts))
		for _, table := range played.Store.Tables {
			met[map[bool]string{true: "shapes", false: "dicts"}[table.Shape >= 0]]++
		}
		for _, x := range played.Store.Sites {
			met["hits"] += x.Hits
			met["misses"] += x.Misses
		}
	}
	wantMet(t, met, 100, "shapes", "dicts")
	wantMet(t, met, 1000, "hits", "misses")
}

// crowdActs draws acts on few tables, with many keys that come and go; how many of a hundred writes take away is told.
func crowdActs(r *dice, n, goes int) []impl.Act {
	keys := pool()
	for i := range int64(60) {
		keys = append(keys, num(i), num(1000*i), float(float64(i)/4), text(fmt.Sprint("crowd ", i)))
	}
	begin := []impl.Act{actNew(), actSite("crowd 7"), actNew(), actSite("a")}
	return append(begin, scriptOf(n-len(begin), func(impl.Store) impl.Act {
		table, k, v := r.below(2), keys[r.below(len(keys))], num(int64(r.below(1000)))
		if r.below(100) < goes {
			v = nothing
		}
		switch r.below(20) {
		case 0:
			return actGet(table, k)
		case 1:
			return actAfter(table, r.below(300))
		case 2:
			return actLen(table)
		case 3:
			return actCount(table)
		case 4:
			return actField(r.below(2), table)
		case 5:
			return actSetField(r.below(2), table, v)
		}
		return actPut(table, k, v)
	})...)
}

func TestScriptsOnCrowds(t *testing.T) {
	r := dice(57)
	for i := range 20 {
		goes := []int{5, 30, 50, 70, 90}[i%5]
		wantScript(t, fmt.Sprintf("script %d, %d of 100 go", i, goes), crowdActs(&r, 1000, goes))
	}
}

// losing is a script that begins with the table 0 with three fields.
func losing(then ...step) []step {
	begin := []step{
		{actNew(), numbered(0)}, {actSite("y"), numbered(0)},
		{actPut(0, text("x"), num(10)), impl.Ans{}}, {actPut(0, text("y"), num(20)), impl.Ans{}}, {actPut(0, text("z"), num(30)), impl.Ans{}}, {actField(0, 0), val(num(20))},
	}
	return append(begin, then...)
}

// wantShapeless wants the table to have lost its shape, and the pairs and turns in both readings.
func wantShapeless(t *testing.T, what string, steps []step, table, turns int, pairs ...impl.Pair) {
	t.Helper()
	played, ideal := wantSteps(t, what, steps)
	if got := played.Store.Tables[table]; got.Shape != -1 || got.Dict.Turns != turns || got.Dict.Live != len(pairs) {
		t.Errorf("%s: shape %d, %d turns, %d pairs", what, got.Shape, got.Dict.Turns, got.Dict.Live)
	}
	wantPlain(t, what, ideal.Tables[table], turns, pairs...)
	wantPairs(t, what, played.Store, table, pairs...)
}

func TestTurnsOfATableThatLosesItsShapeByAKey(t *testing.T) {
	x, y, z := pair(text("x"), num(10), 1), pair(text("y"), num(20), 2), pair(text("z"), num(30), 3)
	for _, k := range []impl.Value{num(1), num(7), num(-1), float(0.5), truth(0), thing(impl.KTable, 2), builtin(14)} {
		lose := losing(step{actPut(0, k, num(40)), impl.Ans{}})
		wantShapeless(t, "a key", lose, 0, 4, x, y, z, pair(k, num(40), 4))
		later := append(slices.Clone(lose), step{actPut(0, text("w"), num(50)), impl.Ans{}}, step{actPut(0, text("x"), nothing), impl.Ans{}},
			step{actAfter(0, 0), impl.Ans{Num: 2, Key: text("y"), Val: num(20)}}, step{actPut(0, text("x"), num(60)), impl.Ans{}},
			step{actField(0, 0), val(num(20))}, step{actAfter(0, 5), impl.Ans{Num: 6, Key: text("x"), Val: num(60)}})
		wantShapeless(t, "a key, and later ones", later, 0, 6, y, z, pair(k, num(40), 4), pair(text("w"), num(50), 5), pair(text("x"), num(60), 6))
	}
	first := []step{{actNew(), numbered(0)}, {actPut(0, num(3), num(1)), impl.Ans{}}}
	wantShapeless(t, "a table without fields", first, 0, 1, pair(num(3), num(1), 1))
	kept := losing(step{actPut(0, num(1), nothing), impl.Ans{}}, step{actGet(0, num(1)), impl.Ans{}}, step{actLen(0), numbered(0)})
	if played, _ := wantSteps(t, "nil at a key that is not there", kept); played.Store.Tables[0].Shape != 3 {
		t.Errorf("nil at a key that is not there: shape %d", played.Store.Tables[0].Shape)
	}
}

func TestTurnsOfATableThatLosesItsShapeByNil(t *testing.T) {
	x, y, z := pair(text("x"), num(10), 1), pair(text("y"), num(20), 2), pair(text("z"), num(30), 3)
	for i, left := range [][]impl.Pair{{y, z}, {x, z}, {x, y}} {
		key := text([]string{"x", "y", "z"}[i])
		lose := losing(step{actPut(0, key, nothing), impl.Ans{}})
		wantShapeless(t, "nil", lose, 0, 3, left...)
		back := append(slices.Clone(lose), step{actPut(0, key, num(40)), impl.Ans{}})
		wantShapeless(t, "nil, and it came again", back, 0, 4, append(slices.Clone(left), pair(key, num(40), 4))...)
		other := append(slices.Clone(lose), step{actPut(0, num(1), num(40)), impl.Ans{}}, step{actLen(0), numbered(1)}, step{actPut(0, key, num(50)), impl.Ans{}})
		wantShapeless(t, "nil, and another one", other, 0, 5, append(slices.Clone(left), pair(num(1), num(40), 4), pair(key, num(50), 5))...)
	}
	bySite := losing(step{actSetField(0, 0, nothing), impl.Ans{}}, step{actField(0, 0), impl.Ans{}}, step{actSetField(0, 0, num(40)), impl.Ans{}}, step{actField(0, 0), val(num(40))})
	wantShapeless(t, "nil by a site", bySite, 0, 4, x, z, pair(text("y"), num(40), 4))
	all := losing(step{actPut(0, text("z"), nothing), impl.Ans{}}, step{actPut(0, text("x"), nothing), impl.Ans{}}, step{actPut(0, text("y"), nothing), impl.Ans{}},
		step{actCount(0), numbered(0)}, step{actAfter(0, 0), impl.Ans{}}, step{actPut(0, text("x"), num(40)), impl.Ans{}})
	wantShapeless(t, "all went", all, 0, 4, pair(text("x"), num(40), 4))
}

// filling is a script that gives a new table these fields, each with its number as the value; the steps ahead of it stay.
func filling(ahead []step, table int, fields ...string) []step {
	steps := append(slices.Clone(ahead), step{actNew(), numbered(table)})
	for i, key := range fields {
		steps = append(steps, step{actPut(table, text(key), num(int64(i)+1)), impl.Ans{}})
	}
	return steps
}

func filledPairs(fields ...string) []impl.Pair {
	var pairs []impl.Pair
	for i, key := range fields {
		pairs = append(pairs, pair(text(key), num(int64(i)+1), i+1))
	}
	return pairs
}

func TestTurnsOfATableThatLosesItsShapeByAThirteenthField(t *testing.T) {
	twelve := filling(nil, 0, names(12)...)
	played, _ := wantSteps(t, "12 fields", twelve)
	if played.Store.Tables[0].Shape != 12 {
		t.Errorf("12 fields: shape %d", played.Store.Tables[0].Shape)
	}
	thirteen := filling(nil, 0, names(13)...)
	wantShapeless(t, "13 fields", thirteen, 0, 13, filledPairs(names(13)...)...)
	wantShapeless(t, "20 fields", filling(nil, 0, names(20)...), 0, 20, filledPairs(names(20)...)...)
	bySite := append(slices.Clone(twelve), step{actSite("f12"), numbered(0)}, step{actField(0, 0), impl.Ans{}}, step{actSetField(0, 0, num(13)), impl.Ans{}},
		step{actField(0, 0), val(num(13))}, step{actAfter(0, 12), impl.Ans{Num: 13, Key: text("f12"), Val: num(13)}})
	wantShapeless(t, "the 13th by a site", bySite, 0, 13, filledPairs(names(13)...)...)
	later := append(slices.Clone(thirteen), step{actPut(0, text("f0"), nothing), impl.Ans{}}, step{actPut(0, text("f12"), nothing), impl.Ans{}},
		step{actPut(0, text("f0"), num(50)), impl.Ans{}}, step{actPut(0, num(1), num(60)), impl.Ans{}}, step{actPut(0, text("f5"), num(70)), impl.Ans{}})
	pairs := append(filledPairs(names(13)...)[1:12], pair(text("f0"), num(50), 14), pair(num(1), num(60), 15))
	pairs[4].Val = num(70)
	wantShapeless(t, "13 fields, and later ones", later, 0, 15, pairs...)
}

// wideFields is the fields of one of the tables that fill a forest.
func wideFields(table int) []string {
	var fields []string
	for i := range 12 {
		fields = append(fields, fmt.Sprintf("t%d f%d", table, i))
	}
	return fields
}

// fillForest makes 17 tables of 12 fields each: the seventh field of the last one takes the last shape that there can be.
func fillForest() []step {
	var steps []step
	for table := range 17 {
		steps = filling(steps, table, wideFields(table)...)
	}
	return steps
}

func TestTurnsOfATableThatLosesItsShapeByAFullForest(t *testing.T) {
	full := fillForest()
	played, _ := wantSteps(t, "a full forest", full)
	if shapes := len(played.Store.Forest.Shapes); shapes != 200 || played.Store.Tables[15].Shape != 192 || played.Store.Tables[16].Shape != -1 {
		t.Fatalf("%d shapes, table 15 has %d, table 16 has %d", shapes, played.Store.Tables[15].Shape, played.Store.Tables[16].Shape)
	}
	wantShapeless(t, "the table that met it", full, 16, 12, filledPairs(wideFields(16)...)...)
	almost, _ := wantSteps(t, "the last shape", full[:len(full)-5])
	if almost.Store.Tables[16].Shape != 199 {
		t.Errorf("the last shape: %d", almost.Store.Tables[16].Shape)
	}
	old := filling(full, 17, wideFields(3)[:5]...)
	if played, _ := wantSteps(t, "shapes that are there", old); played.Store.Tables[17].Shape != 41 {
		t.Errorf("shapes that are there: %d", played.Store.Tables[17].Shape)
	}
	row := append(wideFields(3)[:5], "new", "newer")
	wantShapeless(t, "a new field behind five", filling(full, 17, row...), 17, 7, filledPairs(row...)...)
	wantShapeless(t, "a new field at once", filling(full, 17, "new", "newer"), 17, 2, filledPairs("new", "newer")...)
	later := append(filling(full, 17, row...), step{actPut(17, text("t3 f2"), nothing), impl.Ans{}}, step{actPut(17, text("t3 f2"), num(50)), impl.Ans{}},
		step{actPut(17, num(1), num(60)), impl.Ans{}}, step{actPut(17, text("newer"), num(70)), impl.Ans{}}, step{actAfter(17, 7), impl.Ans{Num: 8, Key: text("t3 f2"), Val: num(50)}})
	pairs := append(slices.Delete(filledPairs(row...), 2, 3), pair(text("t3 f2"), num(50), 8), pair(num(1), num(60), 9))
	pairs[5].Val = num(70)
	wantShapeless(t, "later ones", later, 17, 9, pairs...)
	bySite := append(filling(full, 17, "t3 f0"), step{actSite("new"), numbered(0)}, step{actSetField(0, 17, num(2)), impl.Ans{}}, step{actField(0, 17), val(num(2))})
	wantShapeless(t, "by a site", bySite, 17, 2, filledPairs("t3 f0", "new")...)
}

// wholeHouse reaches 100 tables and 50 sites, and goes on.
func wholeHouse() []impl.Act {
	var acts []impl.Act
	for i := range 101 {
		acts = append(acts, actNew(), actSite(fmt.Sprint("f", i%6)))
	}
	for i := range 700 {
		table, key := i*37%101, text(fmt.Sprint("f", i*5%7))
		acts = append(acts, []impl.Act{actPut(table%100, key, num(int64(i))), actSetField(i%50, table, num(int64(-i))), actField(i*11%51, table), actAfter(table, i%4), actNew(), actSite("f1"), actPut(table, num(1), nothing)}[i%7])
	}
	return acts
}

func TestScriptsThatReachTheMostTablesAndSites(t *testing.T) {
	acts := wholeHouse()
	played, _ := wantScript(t, "all tables and sites", acts)
	if len(played.Store.Tables) != 100 || len(played.Store.Sites) != 50 {
		t.Fatalf("%d tables, %d sites", len(played.Store.Tables), len(played.Store.Sites))
	}
	met := map[string]int{}
	for i, a := range played.Ans {
		met[fmt.Sprintf("op %d code %d", acts[i].Op, a.Code)]++
	}
	wantMet(t, met, 100, "op 1 code 0", "op 1 code 5", "op 7 code 5", "op 2 code 0")
	wantMet(t, met, 50, "op 7 code 0", "op 8 code 0", "op 9 code 0")
	wantMet(t, met, 1, "op 8 code 1", "op 9 code 1")
	r := dice(59)
	for i := range 4 {
		more := append(slices.Clone(acts[:202]), scriptOf(798, func(impl.Store) impl.Act { return chanceAct(&r, played.Store) })...)
		wantScript(t, fmt.Sprint("and goes on by chance, ", i), more)
	}
}

// crowds is rows of 502 keys, each row for one table.
func crowds() map[string]func(i int) impl.Value {
	return map[string]func(i int) impl.Value{
		"ints up":        func(i int) impl.Value { return num(int64(i) + 1) },
		"ints down":      func(i int) impl.Value { return num(int64(600 - i)) },
		"ints far apart": func(i int) impl.Value { return num(int64(i) * -1000) },
		"strings":        func(i int) impl.Value { return text(fmt.Sprint("k", i)) },
		"floats":         func(i int) impl.Value { return float(float64(i) + 0.5) },
		"whole floats":   func(i int) impl.Value { return float(float64(i) + 1) },
		"in turn": func(i int) impl.Value {
			return []impl.Value{num(int64(i)), text(fmt.Sprint("k", i)), float(float64(i) / 1024), thing(impl.KFn, i), num(int64(-i))}[i%5]
		},
	}
}

// bound fills a table up to MaxPairs pairs, and goes on by writes, takings away and writes again.
func bound(key func(i int) impl.Value) []step {
	steps := []step{{actNew(), numbered(0)}, {actSite("s"), numbered(0)}}
	put := func(i int, v impl.Value, want impl.Ans) { steps = append(steps, step{actPut(0, key(i), v), want}) }
	for i := range 500 {
		put(i, num(int64(i)), impl.Ans{})
	}
	put(500, num(1), coded(impl.TooMany))
	put(500, nothing, impl.Ans{})
	steps = append(steps, step{actSetField(0, 0, num(1)), coded(impl.TooMany)}, step{actSetField(0, 0, nothing), impl.Ans{}}, step{actField(0, 0), impl.Ans{}}, step{actCount(0), numbered(500)})
	put(77, truth(1), impl.Ans{})
	put(0, nothing, impl.Ans{})
	steps = append(steps, step{actCount(0), numbered(499)}, step{actSetField(0, 0, num(1)), impl.Ans{}}, step{actField(0, 0), val(num(1))}, step{actAfter(0, 500), impl.Ans{Num: 501, Key: text("s"), Val: num(1)}})
	put(0, num(1), coded(impl.TooMany))
	put(501, num(1), coded(impl.TooMany))
	for i := 1; i < 200; i++ {
		put(i, nothing, impl.Ans{})
	}
	steps = append(steps, step{actCount(0), numbered(301)})
	for i := 199; i > 0; i-- {
		put(i, num(int64(-i)), impl.Ans{})
	}
	put(0, num(1), coded(impl.TooMany))
	put(500, num(1), coded(impl.TooMany))
	put(499, text("v"), impl.Ans{})
	last, _ := modelKey(key(1))
	steps = append(steps, step{actCount(0), numbered(500)}, step{actAfter(0, 699), impl.Ans{Num: 700, Key: last, Val: num(-1)}}, step{actAfter(0, 700), impl.Ans{}}, step{actNew(), numbered(1)})
	return steps
}

func TestATableThatReachesMaxPairs(t *testing.T) {
	for what, key := range crowds() {
		played, ideal := wantSteps(t, what, bound(key))
		if d := played.Store.Tables[0].Dict; d.Live != 500 || d.Turns != 700 {
			t.Errorf("%s: %d pairs, %d turns", what, d.Live, d.Turns)
		}
		if plain := ideal.Tables[0]; len(plain.Pairs) != 500 || plain.Turns != 700 || plain.Pairs[0].Turn != 201 || plain.Pairs[499].Turn != 700 {
			t.Errorf("%s: %d plain pairs, %d turns", what, len(plain.Pairs), plain.Turns)
		}
		if got, want := played.Store.Sites[0], counted(site("s", -1, 0), 0, 5); got != want {
			t.Errorf("%s: the site is %v, want %v", what, got, want)
		}
	}
}

// Writes by chance at the bound: most keys are new, some go.
func TestScriptsThatStayAtMaxPairs(t *testing.T) {
	r := dice(61)
	met := map[string]int{}
	for i := range 6 {
		key, acts := crowds()["in turn"], []impl.Act{actNew(), actSite("k1")}
		for n := range 560 {
			acts = append(acts, actPut(0, key(n), num(int64(n))))
		}
		for len(acts) < 1000 {
			n, v := r.below(700), num(int64(r.below(100)))
			if r.below(5) == 0 {
				v = nothing
			}
			acts = append(acts, actPut(0, key(n), v), []impl.Act{actCount(0), actLen(0), actAfter(0, r.below(700)), actSetField(0, 0, v), actGet(0, key(n))}[r.below(5)])
		}
		played, _ := wantScript(t, fmt.Sprint("script ", i), acts)
		for n, a := range played.Ans[562:] {
			met[fmt.Sprintf("op %d code %d", acts[562+n].Op, a.Code)]++
		}
	}
	wantMet(t, met, 20, "op 2 code 0", "op 2 code 5", "op 9 code 0")
	wantMet(t, met, 1, "op 9 code 5")
}
