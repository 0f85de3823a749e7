package tests

import (
	"math"
	"testing"

	"loop.example/shuttle/impl"
)

func wantFound(t *testing.T, d impl.Dict, turn int, want impl.Found) {
	t.Helper()
	if got := impl.DictAfter(d, turn); got.Found != want.Found || showPair(got.Pair) != showPair(want.Pair) {
		t.Errorf("after %d: %v %s, want %v %s", turn, got.Found, showPair(got.Pair), want.Found, showPair(want.Pair))
	}
}

// The first, one between and the last pair are dead.
func TestReadWithDeadPairs(t *testing.T) {
	d := without(dictOf(text("a"), num(1), text("b"), num(2), num(5), text("c")), text("a"), text("b"), text("c"))
	pairs := []impl.Pair{pair(num(1), num(2), 2), pair(num(2), num(4), 4), pair(num(5), num(5), 5)}
	if len(d.Log) != 6 {
		t.Fatal(show(d))
	}
	if got := impl.DictPairs(d); showPairs(got) != showPairs(pairs) {
		t.Errorf("pairs: %s", showPairs(got))
	}
	for turn, at := range map[int]int{math.MinInt64: 0, -2: 0, -1: 0, 0: 0, 1: 0, 2: 1, 3: 1, 4: 2} {
		wantFound(t, d, turn, impl.Found{Found: true, Pair: pairs[at]})
	}
	for _, turn := range []int{5, 6, 7, math.MaxInt64} {
		wantFound(t, d, turn, impl.Found{})
	}
	if n := impl.DictLen(d); n != 2 {
		t.Errorf("len %d", n)
	}
	for k, want := range map[impl.Value]impl.Value{
		num(1): num(2), float(1): num(2), num(2): num(4), num(5): num(5), float(5): num(5),
		num(3): nothing, num(0): nothing, num(-1): nothing, num(math.MinInt64): nothing, num(math.MaxInt64): nothing,
		text("a"): nothing, text("b"): nothing, text("z"): nothing, truth(1): nothing, builtin(1): nothing, thing(impl.KTable, 1): nothing,
	} {
		if got := impl.DictGet(d, k); got != want {
			t.Errorf("at %s: %s", showValue(k), showValue(got))
		}
	}
}

func TestReadAnswersValuesAsTheyCame(t *testing.T) {
	for _, v := range []impl.Value{float(negZero), float(0), float(math.NaN()), float(2), text(""), truth(0), {Kind: impl.KInt, Num: 3, Flt: negZero}} {
		d := impl.DictPut(impl.Dict{}, text("x"), v)
		if got := impl.DictGet(d, text("x")); showValue(got) != showValue(v) {
			t.Errorf("%s: %s", showValue(v), showValue(got))
		}
		wantFound(t, d, 0, impl.Found{Found: true, Pair: pair(text("x"), v, 1)})
	}
}

func TestReadRefusesKeys(t *testing.T) {
	d := dictOf(num(1), text("x"), num(0))
	for _, k := range []impl.Value{nothing, float(math.NaN()), {Kind: 9}, {Kind: impl.KInt, Num: 1, Ref: 1}, {Kind: impl.KStr, Str: "x", Num: 1}} {
		if got := impl.DictGet(d, k); showValue(got) != showValue(nothing) {
			t.Errorf("at %s: %s", showValue(k), showValue(got))
		}
	}
}

func TestReadWithoutPairs(t *testing.T) {
	for _, d := range []impl.Dict{{}, logOf(8, 0), without(dictOf(num(1), text("x")), num(1), text("x")), {Index: row(8, 3, -1), Used: 1, Turns: 9}} {
		if len(impl.DictPairs(d)) != 0 || impl.DictLen(d) != 0 || impl.DictGet(d, num(1)) != nothing {
			t.Errorf("pairs in %s", show(d))
		}
		for _, turn := range []int{-1, 0, 1} {
			wantFound(t, d, turn, impl.Found{})
		}
	}
}

func TestReadNotSound(t *testing.T) {
	rules := map[int]int{}
	for _, d := range changed(dictOf(num(1), text("x"), num(2), num(7))) {
		rule := modelOk(d)
		if rule == 0 {
			continue
		}
		rules[rule]++
		if len(impl.DictPairs(d)) != 0 || impl.DictLen(d) != 0 || impl.DictGet(d, num(1)) != nothing || impl.DictAfter(d, -1) != (impl.Found{}) {
			t.Errorf("rule %d is broken, and it answers: %s", rule, show(d))
		}
	}
	if len(rules) != 5 {
		t.Errorf("rules met: %v", rules)
	}
}

func TestLen(t *testing.T) {
	for _, r := range []struct {
		d    impl.Dict
		want int
	}{
		{dictOf(num(1)), 1},
		{dictOf(num(2)), 0},
		{dictOf(num(0)), 0},
		{dictOf(text("1")), 0},
		{dictOf(float(1), float(2)), 2},
		{dictOf(num(3), num(2), num(1)), 3},
		{without(dictOf(num(1), num(2), num(3)), num(1)), 0},
		{without(dictOf(num(1), num(2), num(3)), num(2)), 1},
		{without(dictOf(num(1), num(2), num(3)), num(3)), 2},
		{dictOf(num(1), num(2), num(4)), 2},
	} {
		if got := impl.DictLen(r.d); got != r.want {
			t.Errorf("%d, want %d: %s", got, r.want, show(r.d))
		}
	}
}

// Dicts of the same pairs, kept in other ways: with a wider index, with dead pairs.
func TestReadByThePairsAlone(t *testing.T) {
	keys := []impl.Value{num(2), text("x"), float(0.5), num(1), num(9)}
	plain := dictOf(keys...)
	wide := indexedWide(plain, 64)
	spread := copyOf(plain)
	spread.Log = append(make([]impl.Pair, 2), plain.Log...)
	for i, x := range spread.Ints {
		spread.Ints[i] = x + 2
	}
	for i, x := range spread.Index {
		if x > 0 {
			spread.Index[i] = x + 2
		}
	}
	for _, d := range []impl.Dict{wide, spread} {
		if impl.DictOk(d) != 0 || show(d) == show(plain) {
			t.Fatalf("rule %d: %s", impl.DictOk(d), show(d))
		}
		if showPairs(impl.DictPairs(d)) != showPairs(impl.DictPairs(plain)) || impl.DictLen(d) != impl.DictLen(plain) {
			t.Errorf("other pairs in %s", show(d))
		}
		for turn := -1; turn < 7; turn++ {
			wantFound(t, d, turn, impl.DictAfter(plain, turn))
		}
		for _, k := range append(keys, num(3), text("y")) {
			if impl.DictGet(d, k) != impl.DictGet(plain, k) {
				t.Errorf("at %s another value", showValue(k))
			}
		}
	}
}

func indexedWide(d impl.Dict, size int) impl.Dict {
	wide := copyOf(d)
	wide.Index, wide.Used = make([]int, size), 0
	for _, x := range d.Index {
		if x > 0 {
			modelEnter(&wide, x)
		}
	}
	return wide
}

func TestPairsAreNewMemory(t *testing.T) {
	d := dictOf(num(1), text("x"))
	before := show(d)
	pairs := impl.DictPairs(d)
	for i := range pairs[:cap(pairs)] {
		pairs[:cap(pairs)][i] = impl.Pair{}
	}
	if show(d) != before {
		t.Error("the dict was changed")
	}
}
