package tests

import (
	"fmt"
	"slices"
	"testing"

	"loop.example/shuttle/impl"
)

func orders(n int) map[string][]int64 {
	down := ascending(n)
	slices.Reverse(down)
	var ends, odd, even []int64
	for i := int64(1); i <= int64(n); i++ {
		if i%2 == 1 {
			odd = append(odd, i)
			ends = append(ends, (i+1)/2)
		} else {
			even = append(even, i)
			ends = append(ends, int64(n)+1-i/2)
		}
	}
	return map[string][]int64{
		"up": ascending(n), "down": down, "from both ends": ends,
		"even ones first": append(even, odd...), "shuffled": shuffled(n, 1), "shuffled again": shuffled(n, 2),
	}
}

func TestIntsHavePlaces(t *testing.T) {
	for _, n := range []int{1, 2, 3, 7, 8, 9, 33, 199, 200} {
		for name, order := range orders(n) {
			d := dictOf(text("first"))
			for _, i := range order {
				d = impl.DictPut(d, num(i), num(-i))
			}
			wantPlaces(t, fmt.Sprint(name, " of ", n), d, n)
		}
	}
}

func wantPlaces(t *testing.T, what string, d impl.Dict, n int) {
	t.Helper()
	if impl.DictOk(d) != 0 || len(d.Ints) != n || impl.DictLen(d) != n {
		t.Fatalf("%s: rule %d, %d ints, len %d", what, impl.DictOk(d), len(d.Ints), impl.DictLen(d))
	}
	for i, x := range d.Ints {
		if x < 1 || d.Log[x-1].Key != num(int64(i)+1) || d.Log[x-1].Val != num(-int64(i)-1) {
			t.Fatalf("%s: place %d of %d", what, x, i+1)
		}
	}
	for _, x := range d.Index {
		if x > 0 && d.Log[x-1].Key != text("first") {
			t.Fatalf("%s: %s is in Index", what, showValue(d.Log[x-1].Key))
		}
	}
}

func TestIntsHavePlacesBehindTakingAway(t *testing.T) {
	d := dictOf(text("first"))
	for _, i := range shuffled(60, 3) {
		d = impl.DictPut(impl.DictPut(d, num(i), num(-i)), num(i*2), nothing)
	}
	for _, i := range shuffled(60, 4) {
		d = impl.DictPut(d, num(i), num(-i))
	}
	wantPlaces(t, "put again", d, 60)
}

// pool is keys of each Kind, among them some that are the same and some that are none.
func pool() []impl.Value {
	keys := []impl.Value{
		truth(0), truth(1), float(0.5), float(-0.5), float(1e300), float(3), float(negZero),
		text(""), text("a"), text("b"), text("ab"), thing(impl.KTable, 1), thing(impl.KFn, 1), thing(impl.KTask, 1), builtin(1),
		num(0), num(-1), num(1 << 40), nothing, {Kind: 9},
	}
	for i := range int64(14) {
		keys = append(keys, num(i+1))
	}
	for i := range 12 {
		keys = append(keys, text(fmt.Sprint("key ", i)))
	}
	return keys
}

// plainPut is a table as a bare list of pairs.
func plainPut(pairs []impl.Pair, turns int, k, v impl.Value) ([]impl.Pair, int) {
	at := slices.IndexFunc(pairs, func(p impl.Pair) bool { return modelSame(p.Key, k) })
	switch {
	case at >= 0 && v.Kind == impl.KNil:
		return slices.Delete(pairs, at, at+1), turns
	case at >= 0:
		pairs[at].Val = v
	case v.Kind != impl.KNil:
		return append(pairs, pair(k, v, turns+1)), turns + 1
	}
	return pairs, turns
}

// wantTight is P5, as its words stand.
func wantTight(t *testing.T, d impl.Dict) {
	t.Helper()
	live := len(impl.DictPairs(d))
	if live != d.Live || len(d.Log) > 8 && len(d.Log) > 2*live {
		t.Fatalf("%d entries in the log, %d living", len(d.Log), live)
	}
}

// Long runs of putting and taking away. How many of a hundred go differs, so that dicts grow, shrink and stay.
func TestLongRuns(t *testing.T) {
	keys := pool()
	for seed, goes := range []int{20, 50, 50, 65, 90} {
		r := dice(seed + 11)
		d, pairs, turns := impl.Dict{}, []impl.Pair(nil), 0
		for step := range 1500 {
			k, v := keys[r.below(len(keys))], num(int64(step))
			if r.below(100) < goes {
				v = nothing
			}
			before := show(d)
			next, want := impl.DictPut(d, k, v), modelPut(d, k, v)
			if show(d) != before {
				t.Fatal("the argument was changed")
			}
			wantDict(t, fmt.Sprintf("run %d step %d", seed, step), next, want)
			key, code := modelKey(k)
			if code != 0 {
				continue
			}
			d = next
			pairs, turns = plainPut(pairs, turns, key, v)
			if impl.DictOk(d) != 0 || showPairs(impl.DictPairs(d)) != showPairs(pairs) || d.Turns != turns {
				t.Fatalf("run %d step %d: rule %d, turns %d\n%s", seed, step, impl.DictOk(d), d.Turns, show(d))
			}
			wantTight(t, d)
		}
	}
}

func TestLogStaysTight(t *testing.T) {
	d := impl.Dict{}
	for i := range int64(300) {
		d = impl.DictPut(d, num(i*7), truth(1))
		wantTight(t, d)
	}
	for _, i := range shuffled(300, 9) {
		d = impl.DictPut(d, num((i-1)*7), nothing)
		wantTight(t, d)
	}
	for i := range int64(300) {
		d = impl.DictPut(impl.DictPut(d, text("x"), num(i)), text("x"), nothing)
		wantTight(t, d)
		if d = impl.DictPut(d, num(i%5), truth(1)); i%3 == 0 {
			d = impl.DictPut(d, num(i%4), nothing)
		}
		wantTight(t, d)
	}
	if d.Turns < 700 {
		t.Errorf("only %d keys came in this run", d.Turns)
	}
}
