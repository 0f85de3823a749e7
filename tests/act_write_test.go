package tests

import (
	"fmt"
	"math"
	"slices"
	"testing"

	"loop.example/shuttle/impl"
)

// APut as chapter 4 says, on tables with a shape and without one.

// withTable is the store with another table in the place of one.
func withTable(s impl.Store, t int, table impl.Table) impl.Store {
	return spoilStore(s, func(s *impl.Store) { s.Tables[t] = table })
}

// lost is the dict of a table that had these fields with these values.
func lost(fields []string, vals []impl.Value) impl.Dict {
	d := impl.Dict{}
	for i, field := range fields {
		d = modelPut(d, text(field), vals[i])
	}
	return d
}

// wantLost wants the table to lose its shape by the act, and v to be put at k then.
func wantLost(t *testing.T, what string, s impl.Store, table int, a impl.Act, k, v impl.Value) impl.Store {
	t.Helper()
	d := lost(modelRow(s.Forest, s.Tables[table].Shape), s.Tables[table].Vals)
	return wantDone(t, what, s, a, impl.Ans{}, withTable(s, table, dictTable(modelPut(d, k, v))))
}

func TestPutAtAField(t *testing.T) {
	s := someStore()
	for place, key := range []string{"x", "y", "z"} {
		for _, v := range validValues()[2:] {
			vals := slices.Clone(s.Tables[0].Vals)
			vals[place] = v
			wantDone(t, "a field", s, actPut(0, text(key), v), impl.Ans{}, withTable(s, 0, record(4, vals...)))
		}
	}
	wantDone(t, "a zero below 0 beside the key", s, actPut(0, signed(text("y")), num(9)), impl.Ans{}, withTable(s, 0, record(4, num(7), num(9), float(0.5))))
}

func TestPutAtAFieldOfOneOfManyTables(t *testing.T) {
	s := storeOf(chain("x", "y"), slices.Repeat([]impl.Table{record(2, num(1), num(2))}, 100)...)
	for _, table := range []int{0, 57, 99} {
		wantDone(t, "100 tables", s, actPut(table, text("y"), num(3)), impl.Ans{}, withTable(s, table, record(2, num(1), num(3))))
		wantLost(t, "100 tables", s, table, actPut(table, text("y"), nothing), text("y"), nothing)
	}
}

// grownTo is the store with a table that has grown by one key, into a shape that is there or into a new one behind all.
func grownTo(s impl.Store, t int, key string, v impl.Value, shapeOf int) impl.Store {
	return spoilStore(s, func(s *impl.Store) {
		table := &s.Tables[t]
		if shapeOf == len(s.Forest.Shapes) {
			s.Forest.Shapes = append(s.Forest.Shapes, shape(table.Shape, key, s.Forest.Shapes[table.Shape].Count+1))
		}
		table.Shape, table.Vals = shapeOf, append(table.Vals, v)
	})
}

func TestPutMakesAShapeGrow(t *testing.T) {
	s := someStore()
	wantDone(t, "a new shape", s, actPut(0, text("new"), num(1)), impl.Ans{}, grownTo(s, 0, "new", num(1), 6))
	wantDone(t, "a new shape below shape 0", s, actPut(2, text("new"), num(1)), impl.Ans{}, grownTo(s, 2, "new", num(1), 6))
	wantDone(t, "a shape that is there", s, actPut(2, text("x"), num(1)), impl.Ans{}, grownTo(s, 2, "x", num(1), 1))
	wantDone(t, "another one that is there", s, actPut(5, text("y"), float(negZero)), impl.Ans{}, grownTo(s, 5, "y", float(negZero), 2))
	wantDone(t, "the empty key", s, actPut(5, text(""), num(1)), impl.Ans{}, grownTo(s, 5, "", num(1), 6))
	wantDone(t, "4000 bytes", s, actPut(5, text(longKey), num(1)), impl.Ans{}, grownTo(s, 5, longKey, num(1), 6))
	wantDone(t, "no text in UTF-8", s, actPut(5, text("\xff"), num(1)), impl.Ans{}, grownTo(s, 5, "\xff", num(1), 6))
	wantDone(t, "not the same as x", s, actPut(5, text("X"), num(1)), impl.Ans{}, grownTo(s, 5, "X", num(1), 6))
}

// P7 as far as one act after the other shows it: the second table takes the shapes of the first one.
func TestPutGrowsStepByStep(t *testing.T) {
	s := storeOf(forestOf(), record(0), record(0))
	for table := range 2 {
		for i, key := range names(12) {
			s = wantDone(t, fmt.Sprint("table ", table), s, actPut(table, text(key), num(int64(i))), impl.Ans{}, grownTo(s, table, key, num(int64(i)), i+1))
		}
	}
	if s.Tables[0].Shape != 12 || s.Tables[1].Shape != 12 || len(s.Forest.Shapes) != 13 {
		t.Errorf("got %s", showStore(s))
	}
}

func TestPutAtAShapeThatCannotGrow(t *testing.T) {
	var vals []impl.Value
	for i := range 12 {
		vals = append(vals, num(int64(i)+100))
	}
	twelve := storeOf(chain(names(12)...), record(12, vals...), record(11, vals[:11]...), record(12, vals...))
	for _, key := range []string{"new", "", longKey, "f12"} {
		s := wantLost(t, "12 fields", twelve, 0, actPut(0, text(key), num(1)), text(key), num(1))
		wantSame(t, "12 fields, behind it", s, actCount(0), numbered(13))
	}
	wantDone(t, "11 fields", twelve, actPut(1, text("new"), num(1)), impl.Ans{}, grownTo(twelve, 1, "new", num(1), 13))
	wantDone(t, "11 fields, a shape that is there", twelve, actPut(1, text("f11"), num(1)), impl.Ans{}, grownTo(twelve, 1, "f11", num(1), 12))
	wantDone(t, "12 fields, one of them", twelve, actPut(0, text("f11"), num(1)), impl.Ans{}, withTable(twelve, 0, record(12, append(slices.Clone(vals[:11]), num(1))...)))
	wantSame(t, "12 fields, nil", twelve, actPut(0, text("new"), nothing), impl.Ans{})

	full := storeOf(wide(200), record(0), record(199, num(5)))
	almost := storeOf(wide(199), record(0), record(198, num(5)))
	wantLost(t, "a full forest", full, 0, actPut(0, text("new"), num(1)), text("new"), num(1))
	wantLost(t, "a full forest", full, 1, actPut(1, text("new"), num(1)), text("new"), num(1))
	wantDone(t, "a full forest, a shape that is there", full, actPut(0, text("f7"), num(1)), impl.Ans{}, grownTo(full, 0, "f7", num(1), 8))
	wantDone(t, "a full forest, a field", full, actPut(1, text("f198"), num(1)), impl.Ans{}, withTable(full, 1, record(199, num(1))))
	s := wantDone(t, "room for one shape", almost, actPut(1, text("new"), num(1)), impl.Ans{}, grownTo(almost, 1, "new", num(1), 199))
	wantLost(t, "full by now", s, 0, actPut(0, text("new"), num(1)), text("new"), num(1))
}

func TestPutAtAKeyThatIsNoString(t *testing.T) {
	s := someStore()
	for _, k := range []impl.Value{
		num(1), num(2), num(0), num(-1), num(math.MaxInt64), float(1), float(negZero), float(0.5), float(math.Inf(1)), truth(0), truth(1),
		thing(impl.KTable, 0), thing(impl.KFn, 1), thing(impl.KTask, 2), builtin(3),
	} {
		for _, table := range []int{0, 2, 3, 5} {
			wantLost(t, "no string", s, table, actPut(table, k, num(8)), k, num(8))
			wantSame(t, "no string, nil", s, actPut(table, k, nothing), impl.Ans{})
		}
	}
}

// The dict has the fields in order, with the Turns from 1 on, and V behind them.
func TestPutTakesTheShape(t *testing.T) {
	s := impl.Do(someStore(), actPut(0, num(1), truth(1))).Store
	wantPairs(t, "an int", s, 0, pair(text("x"), num(7), 1), pair(text("y"), text("seven"), 2), pair(text("z"), float(0.5), 3), pair(num(1), truth(1), 4))
	if table := s.Tables[0]; table.Shape != -1 || len(table.Vals) != 0 || table.Dict.Turns != 4 || table.Dict.Live != 4 || table.Dict.Used != 3 {
		t.Errorf("got %s", showStore(s))
	}
	s = impl.Do(someStore(), actPut(2, num(2), truth(1))).Store
	wantPairs(t, "shape 0", s, 2, pair(num(2), truth(1), 1))
	s = impl.Do(someStore(), actPut(0, text("y"), nothing)).Store
	wantPairs(t, "a field goes", s, 0, pair(text("x"), num(7), 1), pair(text("z"), float(0.5), 3))
	s = impl.Do(s, actPut(0, text("y"), num(4))).Store
	wantPairs(t, "it comes back", s, 0, pair(text("x"), num(7), 1), pair(text("z"), float(0.5), 3), pair(text("y"), num(4), 4))
	if table := s.Tables[0]; table.Shape != -1 || table.Dict.Turns != 4 || table.Dict.Live != 3 {
		t.Errorf("got %s", showStore(s))
	}
}

func TestPutNilAtATableWithAShape(t *testing.T) {
	s := someStore()
	for _, none := range []impl.Value{nothing, {Flt: negZero}} {
		for _, key := range []string{"x", "y", "z"} {
			wantLost(t, "a field", s, 0, actPut(0, text(key), none), text(key), none)
		}
		last := wantLost(t, "the only field", s, 5, actPut(5, text("x"), none), text("x"), none)
		wantSame(t, "nothing is left", last, actCount(5), numbered(0))
		for _, k := range []impl.Value{text("w"), text(""), text("X"), text(longKey), num(1), float(0.5), thing(impl.KFn, 0)} {
			for _, table := range []int{0, 2, 3, 5} {
				wantSame(t, "a key that is not there", s, actPut(table, k, none), impl.Ans{})
			}
		}
	}
	var vals []impl.Value
	for i := range 12 {
		vals = append(vals, num(int64(i)))
	}
	twelve := storeOf(chain(names(12)...), record(12, vals...))
	for _, key := range names(12) {
		wantLost(t, "one of 12 fields", twelve, 0, actPut(0, text(key), nothing), text(key), nothing)
	}
}

func TestPutAtATableWithoutAShape(t *testing.T) {
	s := someStore()
	keys := []impl.Value{num(1), num(2), num(3), num(9), num(10), float(9), float(0.5), float(1.5), text("x"), text("y"), text(longKey), truth(1), builtin(0)}
	for _, k := range keys {
		for _, v := range validValues() {
			for _, table := range []int{1, 4} {
				wantDone(t, "a dict", s, actPut(table, k, v), impl.Ans{}, putBehind(s, table, k, v))
			}
		}
	}
	wantSame(t, "nil at a new key", s, actPut(1, text("x"), nothing), impl.Ans{})
	wantSame(t, "nil at a new key of the zero dict", s, actPut(4, num(1), nothing), impl.Ans{})
	behind := impl.Do(s, actPut(1, num(2), nothing)).Store
	wantPairs(t, "nil at an old key", behind, 1, pair(num(1), num(1), 1), pair(float(0.5), num(4), 4), pair(num(9), num(5), 5))
	behind = impl.Do(s, actPut(1, text("x"), text("v"))).Store
	wantPairs(t, "a new key", behind, 1, pair(num(1), num(1), 1), pair(num(2), num(3), 3), pair(float(0.5), num(4), 4), pair(num(9), num(5), 5), pair(text("x"), text("v"), 6))
}

// Nothing brings a shape back: strings come into the dict of a table that lost it.
func TestPutStringsWithoutAShape(t *testing.T) {
	s := storeOf(chain("x", "y"), dictTable(impl.Dict{}))
	for _, key := range []string{"x", "y", "z"} {
		s = wantDone(t, "a dict", s, actPut(0, text(key), num(1)), impl.Ans{}, putBehind(s, 0, text(key), num(1)))
	}
	if s.Tables[0].Shape != -1 || len(s.Forest.Shapes) != 3 {
		t.Errorf("got %s", showStore(s))
	}
}

// The sites stay as they are, whatever becomes of the tables in which they found their field.
func TestPutLeavesSites(t *testing.T) {
	s := someStore()
	for _, a := range []impl.Act{actPut(0, text("y"), nothing), actPut(0, num(1), num(1)), actPut(0, text("w"), num(1)), actPut(0, text("y"), num(1))} {
		if behind := impl.Do(s, a).Store; !slices.Equal(behind.Sites, s.Sites) {
			t.Errorf("%s: got %s", showAct(a), showStore(behind))
		}
	}
}
