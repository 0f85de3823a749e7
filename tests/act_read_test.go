package tests

import (
	"fmt"
	"math"
	"testing"

	"loop.example/shuttle/impl"
)

// AGet, AAfter, ALen and ACount as chapter 4 says; none of them changes the store.

func TestGetOfATableWithAShape(t *testing.T) {
	s := someStore()
	wantSame(t, "three fields", s, actGet(0, text("x")), val(num(7)))
	wantSame(t, "three fields", s, actGet(0, text("y")), val(text("seven")))
	wantSame(t, "three fields", s, actGet(0, text("z")), val(float(0.5)))
	wantSame(t, "another order", s, actGet(3, text("y")), val(truth(0)))
	wantSame(t, "another order", s, actGet(3, text("x")), val(thing(impl.KTable, 3)))
	wantSame(t, "a zero below 0 beside the key", s, actGet(0, signed(text("x"))), val(num(7)))
	for _, k := range []impl.Value{text("w"), text(""), text("X"), text("x\x00"), text(longKey), num(0), num(1), float(1), float(0.5), truth(1), builtin(0), thing(impl.KFn, 0)} {
		for _, table := range []int{0, 2, 3, 5} {
			wantSame(t, "no field", s, actGet(table, k), impl.Ans{})
		}
	}
	empty := storeOf(chain("", longKey), record(2, num(1), num(2)), record(0))
	wantSame(t, "the empty key", empty, actGet(0, text("")), val(num(1)))
	wantSame(t, "4000 bytes", empty, actGet(0, text(longKey)), val(num(2)))
	wantSame(t, "the empty key, shape 0", empty, actGet(1, text("")), impl.Ans{})
}

func TestGetOfATableWithoutAShape(t *testing.T) {
	s := someStore()
	for _, c := range []struct{ k, want impl.Value }{
		{num(1), num(1)}, {num(2), num(3)}, {float(0.5), num(4)}, {num(9), num(5)}, {float(1), num(1)}, {float(2), num(3)}, {float(9), num(5)},
		{text("x"), nothing}, {text("1"), nothing}, {num(3), nothing}, {float(1.5), nothing}, {float(math.Inf(1)), nothing}, {truth(1), nothing},
	} {
		wantSame(t, "a dict", s, actGet(1, c.k), val(c.want))
		wantSame(t, "the zero dict", s, actGet(4, c.k), impl.Ans{})
	}
}

func TestGetAnswersValuesAsTheyCame(t *testing.T) {
	for _, v := range validValues()[2:] {
		s := storeOf(chain("x"), record(1, v), dictTable(impl.DictPut(impl.Dict{}, text("x"), v)))
		s.Sites = []impl.Site{site("x", 1, 0)}
		for table := range 2 {
			wantSame(t, "the value", s, actGet(table, text("x")), val(v))
			wantSame(t, "the value", s, actAfter(table, 0), impl.Ans{Num: 1, Key: text("x"), Val: v})
			if got := impl.Do(s, actField(0, table)).Ans; showValue(got.Val) != showValue(v) {
				t.Errorf("the field of table %d: %s, want %s", table, showValue(got.Val), showValue(v))
			}
		}
	}
}

func TestAfterOfATableWithAShape(t *testing.T) {
	s := someStore()
	wantSame(t, "three fields", s, actAfter(0, 0), impl.Ans{Num: 1, Key: text("x"), Val: num(7)})
	wantSame(t, "three fields", s, actAfter(0, 1), impl.Ans{Num: 2, Key: text("y"), Val: text("seven")})
	wantSame(t, "three fields", s, actAfter(0, 2), impl.Ans{Num: 3, Key: text("z"), Val: float(0.5)})
	for _, n := range []int{3, 4, 12, 1 << 32, mostTurns} {
		wantSame(t, "behind three fields", s, actAfter(0, n), impl.Ans{})
	}
	for _, n := range []int{0, 1, mostTurns} {
		wantSame(t, "shape 0", s, actAfter(2, n), impl.Ans{})
	}
	twelve := storeOf(chain(names(12)...), record(12, numbers(12)...))
	for n, key := range names(12) {
		wantSame(t, "12 fields", twelve, actAfter(0, n), impl.Ans{Num: n + 1, Key: text(key), Val: num(int64(n) + 1)})
	}
	wantSame(t, "behind 12 fields", twelve, actAfter(0, 12), impl.Ans{})
}

// numbers is the ints 1 to n as values.
func numbers(n int) []impl.Value {
	var row []impl.Value
	for _, x := range ascending(n) {
		row = append(row, num(x))
	}
	return row
}

// An N below, at and above each Turn that is there.
func TestAfterOfATableWithoutAShape(t *testing.T) {
	s := someStore()
	pairs := []impl.Pair{pair(num(1), num(1), 1), pair(num(2), num(3), 3), pair(float(0.5), num(4), 4), pair(num(9), num(5), 5)}
	for n, at := range []int{0, 1, 1, 2, 3} {
		want := pairs[at]
		wantSame(t, "a dict", s, actAfter(1, n), impl.Ans{Num: want.Turn, Key: want.Key, Val: want.Val})
	}
	for _, n := range []int{5, 6, mostTurns} {
		wantSame(t, "behind a dict", s, actAfter(1, n), impl.Ans{})
		wantSame(t, "the zero dict", s, actAfter(4, n-5), impl.Ans{})
	}
	wide := impl.Dict{Log: []impl.Pair{{}, pair(num(1), num(7), 3), {}, pair(num(2), num(8), mostTurns)}, Ints: []int{2, 4}, Live: 2, Turns: mostTurns}
	gaps := storeOf(forestOf(), dictTable(wide), dictTable(logOf(8, 0)))
	for _, n := range []int{0, 2} {
		wantSame(t, "ahead of the first", gaps, actAfter(0, n), impl.Ans{Num: 3, Key: num(1), Val: num(7)})
	}
	for _, n := range []int{3, 4, mostTurns - 1} {
		wantSame(t, "between them", gaps, actAfter(0, n), impl.Ans{Num: mostTurns, Key: num(2), Val: num(8)})
	}
	wantSame(t, "behind the last", gaps, actAfter(0, mostTurns), impl.Ans{})
	wantSame(t, "dead pairs alone", gaps, actAfter(1, 0), impl.Ans{})
}

// Who goes through a table by AAfter meets every pair that stays, once, whatever comes and goes meanwhile, though the table loses its shape on the way.
func TestAfterWhileATableChanges(t *testing.T) {
	s := storeOf(forestOf(), record(0))
	for i, key := range names(12) {
		s = impl.Do(s, actPut(0, text(key), num(int64(i)))).Store
	}
	changes := []impl.Act{
		actPut(0, text("f0"), nothing), actPut(0, text("new"), num(1)), actPut(0, text("f3"), nothing), actPut(0, text("f0"), num(2)),
		actPut(0, text("f1"), nothing), actPut(0, num(1), num(3)), actPut(0, text("f5"), nothing), actPut(0, text("f6"), nothing),
		actPut(0, text("f2"), nothing), actPut(0, text("f4"), nothing),
	}
	met := map[string]int{}
	for turn, i := 0, 0; ; i++ {
		ans := impl.Do(s, actAfter(0, turn)).Ans
		if ans.Num == 0 {
			break
		}
		if ans.Num <= turn {
			t.Fatalf("turn %d behind turn %d", ans.Num, turn)
		}
		turn = ans.Num
		met[fmt.Sprint(ans.Key.Kind, ans.Key.Str, ans.Key.Num)]++
		if i < len(changes) {
			s = impl.Do(s, changes[i]).Store
		}
	}
	for _, key := range []string{"f7", "f8", "f9", "f10", "f11"} {
		if met[fmt.Sprint(impl.KStr, key, 0)] != 1 {
			t.Errorf("%s was met %d times", key, met[fmt.Sprint(impl.KStr, key, 0)])
		}
	}
	for key, n := range met {
		if n > 1 && key != fmt.Sprint(impl.KStr, "f0", 0) {
			t.Errorf("%s was met %d times", key, n)
		}
	}
}

func TestLenAndCount(t *testing.T) {
	twelve := numbers(12)
	for _, c := range []struct {
		what       string
		table      impl.Table
		len, count int
	}{
		{"shape 0", record(0), 0, 0},
		{"one field", record(1, num(1)), 0, 1},
		{"12 fields", record(12, twelve...), 0, 12},
		{"the zero dict", dictTable(impl.Dict{}), 0, 0},
		{"ints from 1 on", dictTable(dictOf(num(1), num(2), num(3))), 3, 3},
		{"ints in another order", dictTable(dictOf(num(3), num(1), num(2))), 3, 3},
		{"whole floats", dictTable(dictOf(float(2), float(1))), 2, 2},
		{"no 1", dictTable(dictOf(num(2), num(3))), 0, 2},
		{"a gap", dictTable(dictOf(num(1), num(2), num(4))), 2, 3},
		{"one went in the middle", dictTable(without(dictOf(num(1), num(2), num(3)), num(2))), 1, 2},
		{"the first went", dictTable(without(dictOf(num(1), num(2), num(3)), num(1))), 0, 2},
		{"strings beside ints", dictTable(dictOf(text("x"), num(1), text("1"), num(0))), 1, 4},
		{"dead pairs alone", dictTable(logOf(8, 0)), 0, 0},
		{"dead pairs ahead", dictTable(logOf(5, 5)), 5, 5},
		{"500 pairs", dictTable(logOf(0, 500)), 500, 500},
		{"turns alone", dictTable(impl.Dict{Turns: mostTurns}), 0, 0},
	} {
		s := storeOf(chain(names(12)...), record(0), c.table, dictTable(dictOf(num(1))))
		wantSame(t, c.what, s, actLen(1), numbered(c.len))
		wantSame(t, c.what, s, actCount(1), numbered(c.count))
	}
}
