package tests

import (
	"fmt"
	"testing"

	"loop.example/shuttle/impl"
)

// AField and ASetField: what a site finds, what it learns, and what is written there.

// seen is the store with one site changed.
func seen(s impl.Store, at int, x impl.Site) impl.Store {
	return spoilStore(s, func(s *impl.Store) { s.Sites[at] = x })
}

func counted(x impl.Site, hits, misses int) impl.Site {
	x.Hits, x.Misses = hits, misses
	return x
}

// siteStore has tables of shapes with y at place 1, with y at place 0, without it, without a field, and three with dicts, one of which has y.
func siteStore(sites ...impl.Site) impl.Store {
	return impl.Store{
		Forest: someForest(),
		Tables: []impl.Table{
			record(2, num(10), num(11)),
			record(5, num(20), num(21)),
			record(1, num(30)),
			record(0),
			dictTable(dictOf(num(1), text("y"))),
			dictTable(dictOf(num(1), text("x"))),
			dictTable(impl.Dict{}),
			record(2, num(40), num(41)),
		},
		Sites: sites,
	}
}

func TestFieldHits(t *testing.T) {
	s := siteStore(site("w", -1, 0), counted(site("y", 2, 1), 3, 5))
	behind := seen(s, 1, counted(site("y", 2, 1), 4, 5))
	wantDone(t, "the site's shape", s, actField(1, 0), val(num(11)), behind)
	wantDone(t, "another table of it", s, actField(1, 7), val(num(41)), behind)
	first := siteStore(site("x", 1, 0))
	wantDone(t, "place 0", first, actField(0, 2), val(num(30)), seen(first, 0, counted(site("x", 1, 0), 1, 0)))
}

func TestFieldMissesAndLearns(t *testing.T) {
	for _, x := range []impl.Site{site("y", -1, 0), site("y", 5, 0), site("y", 4, 1), counted(site("y", 3, 0), 7, 9)} {
		s := siteStore(x)
		learnt := counted(site("y", 2, 1), x.Hits, x.Misses+1)
		s = wantDone(t, fmt.Sprint("from shape ", x.Shape), s, actField(0, 0), val(num(11)), seen(s, 0, learnt))
		wantDone(t, "then it hits", s, actField(0, 7), val(num(41)), seen(s, 0, counted(learnt, x.Hits+1, x.Misses+1)))
		back := counted(site("y", 5, 0), x.Hits, x.Misses+2)
		wantDone(t, "then it learns another one", s, actField(0, 1), val(num(20)), seen(s, 0, back))
	}
}

func TestFieldMissesAndLearnsNothing(t *testing.T) {
	for _, x := range []impl.Site{site("y", -1, 0), site("y", 2, 1), counted(site("y", 5, 0), 7, 9)} {
		s := siteStore(x)
		missed := seen(s, 0, counted(x, x.Hits, x.Misses+1))
		wantDone(t, "a shape without the field", s, actField(0, 2), impl.Ans{}, missed)
		wantDone(t, "shape 0", s, actField(0, 3), impl.Ans{}, missed)
		wantDone(t, "a dict with the key", s, actField(0, 4), val(num(2)), missed)
		wantDone(t, "a dict without the key", s, actField(0, 5), impl.Ans{}, missed)
		wantDone(t, "the zero dict", s, actField(0, 6), impl.Ans{}, missed)
	}
}

// A site that has found nothing has the Shape of a table without one, and misses there all the same.
func TestFieldOfATableWithoutAShape(t *testing.T) {
	s := siteStore(site("y", -1, 0), site("", -1, 0))
	for at := range 2 {
		for _, table := range []int{4, 5, 6} {
			behind := impl.Do(s, actField(at, table)).Store.Sites[at]
			if want := counted(s.Sites[at], 0, 1); behind != want {
				t.Errorf("site %d, table %d: %v, want %v", at, table, behind, want)
			}
			behind = impl.Do(s, actSetField(at, table, num(1))).Store.Sites[at]
			if want := counted(s.Sites[at], 0, 1); behind != want {
				t.Errorf("site %d, table %d, to write: %v, want %v", at, table, behind, want)
			}
		}
	}
}

func TestFieldOfTheEmptyKey(t *testing.T) {
	s := impl.Store{Forest: forestOf(shape(0, "", 1), shape(0, "x", 1), shape(2, "", 2)), Sites: []impl.Site{site("", -1, 0)}}
	s.Tables = []impl.Table{record(0), record(1, num(1)), record(3, num(2), num(3))}
	wantDone(t, "shape 0", s, actField(0, 0), impl.Ans{}, seen(s, 0, counted(site("", -1, 0), 0, 1)))
	wantDone(t, "place 0", s, actField(0, 1), val(num(1)), seen(s, 0, counted(site("", 1, 0), 0, 1)))
	wantDone(t, "place 1", s, actField(0, 2), val(num(3)), seen(s, 0, counted(site("", 3, 1), 0, 1)))
}

func TestCountsStayAtTheMost(t *testing.T) {
	for _, n := range []int{mostTurns - 2, mostTurns - 1, mostTurns} {
		more := min(n+1, mostTurns)
		s := siteStore(counted(site("y", 2, 1), n, n))
		hit, missed := seen(s, 0, counted(site("y", 2, 1), more, n)), seen(s, 0, counted(site("y", 2, 1), n, more))
		wantDone(t, "a hit", s, actField(0, 0), val(num(11)), hit)
		wantDone(t, "a hit, to write", s, actSetField(0, 0, num(1)), impl.Ans{}, withTable(hit, 0, record(2, num(10), num(1))))
		wantDone(t, "a miss", s, actField(0, 3), impl.Ans{}, missed)
		wantDone(t, "a miss at a dict", s, actField(0, 4), val(num(2)), missed)
		wantDone(t, "a miss that learns", s, actField(0, 1), val(num(20)), seen(s, 0, counted(site("y", 5, 0), n, more)))
		wantDone(t, "a miss, to write nil", s, actSetField(0, 3, nothing), impl.Ans{}, missed)
	}
}

func TestSetFieldThatIsFound(t *testing.T) {
	for _, v := range validValues()[2:] {
		s := siteStore(counted(site("y", 2, 1), 3, 5))
		hit := seen(s, 0, counted(site("y", 2, 1), 4, 5))
		wantDone(t, "a hit", s, actSetField(0, 0, v), impl.Ans{}, withTable(hit, 0, record(2, num(10), v)))
		learnt := seen(s, 0, counted(site("y", 5, 0), 3, 6))
		wantDone(t, "a miss that learns", s, actSetField(0, 1, v), impl.Ans{}, withTable(learnt, 1, record(5, v, num(21))))
	}
}

// The table loses its shape; what the site has found in that stays.
func TestSetFieldToNilWhereItIsFound(t *testing.T) {
	for _, none := range []impl.Value{nothing, {Flt: negZero}} {
		s := siteStore(counted(site("y", 2, 1), 3, 5))
		hit := seen(s, 0, counted(site("y", 2, 1), 4, 5))
		gone := dictTable(without(modelPut(modelPut(impl.Dict{}, text("x"), num(10)), text("y"), num(11)), text("y")))
		behind := wantDone(t, "a hit", s, actSetField(0, 0, none), impl.Ans{}, withTable(hit, 0, gone))
		wantPairs(t, "a hit", behind, 0, pair(text("x"), num(10), 1))
		wantDone(t, "then it misses", behind, actField(0, 0), impl.Ans{}, seen(behind, 0, counted(site("y", 2, 1), 4, 6)))
		learnt := seen(s, 0, counted(site("y", 5, 0), 3, 6))
		gone = dictTable(without(modelPut(modelPut(impl.Dict{}, text("y"), num(20)), text("x"), num(21)), text("y")))
		behind = wantDone(t, "a miss that learns", s, actSetField(0, 1, none), impl.Ans{}, withTable(learnt, 1, gone))
		wantPairs(t, "a miss that learns", behind, 1, pair(text("x"), num(21), 2))
	}
}

func TestSetFieldThatIsNotFound(t *testing.T) {
	x := counted(site("y", 5, 0), 3, 5)
	s := siteStore(x)
	missed := seen(s, 0, counted(x, 3, 6))
	wantDone(t, "a shape that grows into one that is there", s, actSetField(0, 2, num(1)), impl.Ans{}, withTable(missed, 2, record(2, num(30), num(1))))
	wantDone(t, "shape 0 grows", s, actSetField(0, 3, num(1)), impl.Ans{}, withTable(missed, 3, record(3, num(1))))
	wantDone(t, "a dict with the key", s, actSetField(0, 4, num(1)), impl.Ans{}, putBehind(missed, 4, text("y"), num(1)))
	wantDone(t, "a dict with the key, nil", s, actSetField(0, 4, nothing), impl.Ans{}, putBehind(missed, 4, text("y"), nothing))
	wantDone(t, "a dict without the key", s, actSetField(0, 5, num(1)), impl.Ans{}, putBehind(missed, 5, text("y"), num(1)))
	wantDone(t, "the zero dict", s, actSetField(0, 6, num(1)), impl.Ans{}, putBehind(missed, 6, text("y"), num(1)))
	for _, table := range []int{2, 3, 5, 6} {
		wantDone(t, "nil where there is nothing", s, actSetField(0, table, nothing), impl.Ans{}, missed)
	}
	s = siteStore(site("new", -1, 0))
	missed = seen(s, 0, counted(site("new", -1, 0), 0, 1))
	grown := wantDone(t, "a new shape", s, actSetField(0, 0, num(1)), impl.Ans{}, grownTo(missed, 0, "new", num(1), 6))
	wantDone(t, "it learns that by the next act", grown, actField(0, 0), val(num(1)), seen(grown, 0, counted(site("new", 6, 2), 0, 2)))
}

func TestSetFieldAtAShapeThatCannotGrow(t *testing.T) {
	twelve := storeOf(chain(names(12)...), record(12, numbers(12)...))
	twelve.Sites = []impl.Site{site("new", -1, 0), site("f11", 12, 11)}
	missed := seen(twelve, 0, counted(site("new", -1, 0), 0, 1))
	d := modelPut(lost(names(12), numbers(12)), text("new"), num(5))
	wantDone(t, "12 fields", twelve, actSetField(0, 0, num(5)), impl.Ans{}, withTable(missed, 0, dictTable(d)))
	hit := seen(twelve, 1, counted(site("f11", 12, 11), 1, 0))
	vals := append(numbers(11), num(5))
	wantDone(t, "the last of them", twelve, actSetField(1, 0, num(5)), impl.Ans{}, withTable(hit, 0, record(12, vals...)))

	full := storeOf(wide(200), record(199, num(7)))
	full.Sites = []impl.Site{site("new", -1, 0)}
	missed = seen(full, 0, counted(site("new", -1, 0), 0, 1))
	d = modelPut(lost([]string{"f198"}, []impl.Value{num(7)}), text("new"), num(5))
	wantDone(t, "a full forest", full, actSetField(0, 0, num(5)), impl.Ans{}, withTable(missed, 0, dictTable(d)))
}

// The one thing that changes though there is a code.
func TestSetFieldOnATableThatCanTakeNoMore(t *testing.T) {
	for what, d := range map[string]impl.Dict{
		"500 pairs":              fullDict(),
		"all turns":              spentDict(),
		"all turns, no pairs":    {Turns: mostTurns},
		"all turns, a loose log": spoil(logOf(5, 3), func(d *impl.Dict) { d.Turns = mostTurns }),
	} {
		for _, x := range []impl.Site{site("y", -1, 0), counted(site("y", 2, 1), 3, 5), counted(site("y", 5, 0), mostTurns, mostTurns)} {
			s := siteStore(x, site("x", -1, 0))
			s.Tables[6] = dictTable(d)
			missed := seen(s, 0, counted(x, x.Hits, min(x.Misses+1, mostTurns)))
			wantDone(t, what, s, actSetField(0, 6, num(1)), coded(impl.TooMany), missed)
			wantDone(t, what+", nil", s, actSetField(0, 6, nothing), impl.Ans{}, missed)
			wantDone(t, what+", read", s, actField(0, 6), impl.Ans{}, missed)
			wantSame(t, what+", by its key", s, actPut(6, text("y"), num(1)), coded(impl.TooMany))
		}
	}
	s := siteStore(site("x", 2, 0))
	s.Tables[6] = dictTable(spentDict())
	missed := seen(s, 0, counted(site("x", 2, 0), 0, 1))
	wantDone(t, "what is there already", s, actSetField(0, 6, num(9)), impl.Ans{}, putBehind(missed, 6, text("x"), num(9)))
	wantDone(t, "what is there already goes", s, actSetField(0, 6, nothing), impl.Ans{}, putBehind(missed, 6, text("x"), nothing))
}

// P10: one miss, then hits; a table of another shape, or of none, makes it miss.
func TestSiteThatReadsManyTables(t *testing.T) {
	for _, n := range []int{1, 2, 45, 90} {
		s := impl.Do(impl.Empty(), actSite("y")).Store
		for table := range n {
			s = impl.Do(s, actNew()).Store
			s = impl.Do(s, actPut(table, text("x"), num(int64(table)))).Store
			s = impl.Do(s, actPut(table, text("y"), num(int64(-table)))).Store
		}
		for table := range n {
			done := impl.Do(s, actField(0, table))
			if s = done.Store; done.Ans != val(num(int64(-table))) {
				t.Errorf("table %d: %v", table, done.Ans)
			}
		}
		if got, want := s.Sites[0], counted(site("y", 2, 1), n-1, 1); got != want {
			t.Errorf("%d tables: %v, want %v", n, got, want)
		}
		s = impl.Do(s, actPut(0, text("z"), num(1))).Store
		s = impl.Do(s, actField(0, 0)).Store
		if got, want := s.Sites[0], counted(site("y", 3, 1), n-1, 2); got != want {
			t.Errorf("%d tables, another shape: %v, want %v", n, got, want)
		}
		s = impl.Do(s, actPut(0, num(1), num(1))).Store
		s = impl.Do(s, actField(0, 0)).Store
		if got, want := s.Sites[0], counted(site("y", 3, 1), n-1, 3); got != want {
			t.Errorf("%d tables, no shape: %v, want %v", n, got, want)
		}
	}
}
