package tests

import (
	"math"
	"slices"
	"strings"
	"testing"

	"loop.example/shuttle/impl"
)

func pair(k, v impl.Value, turn int) impl.Pair { return impl.Pair{Key: k, Val: v, Turn: turn} }

// row is an index of that size with entries at some places: place, entry, place, entry ..
func row(size int, at ...int) []int {
	r := make([]int, size)
	for i := 0; i < len(at); i += 2 {
		r[at[i]] = at[i+1]
	}
	return r
}

func start(k impl.Value, size int) int { return int(uint64(impl.HashOf(k)) % uint64(size)) }

func TestPutAtKeyThatIsThere(t *testing.T) {
	keys := []impl.Value{num(1), text("x"), num(7), float(0.5), truth(0), thing(impl.KTask, 3), builtin(2)}
	d := dictOf(keys...)
	check := func(k impl.Value, place int) {
		want := copyOf(d)
		want.Log[place].Val = float(negZero)
		wantDict(t, showValue(k), impl.DictPut(d, k, float(negZero)), want)
	}
	for place, k := range keys {
		check(k, place)
	}
	check(float(1), 0)
	check(float(7), 2)
}

func TestPutKeepsTheKeyAsItCame(t *testing.T) {
	k := impl.Value{Kind: impl.KInt, Num: 1, Flt: negZero}
	d := impl.DictPut(impl.Dict{}, k, truth(1))
	wantDict(t, "coming", d, impl.Dict{Log: []impl.Pair{pair(k, truth(1), 1)}, Ints: []int{1}, Live: 1, Turns: 1})
	wantDict(t, "again", impl.DictPut(d, num(1), truth(0)), impl.Dict{Log: []impl.Pair{pair(k, truth(0), 1)}, Ints: []int{1}, Live: 1, Turns: 1})
}

func TestPutNilAtKeyThatIsNotThere(t *testing.T) {
	d := without(dictOf(num(1), num(2), num(3), text("x"), num(9)), num(2))
	d.Log[1].Key.Flt = negZero
	for _, k := range []impl.Value{num(2), num(4), num(5), num(0), num(-1), text("y"), float(2.5), truth(1)} {
		wantDict(t, showValue(k), impl.DictPut(d, k, nothing), d)
		wantDict(t, showValue(k)+" with a zero below 0", impl.DictPut(d, k, impl.Value{Flt: negZero}), d)
	}
	wantDict(t, "of nothing", impl.DictPut(impl.Dict{}, num(1), nothing), impl.Dict{})
	loose := logOf(5, 3)
	wantDict(t, "of a loose log", impl.DictPut(loose, text("y"), nothing), loose)
}

func TestTakeAwayInt(t *testing.T) {
	d := dictOf(num(1), num(2), num(3), num(4))
	log := func(dead ...int) []impl.Pair {
		l := slices.Clone(d.Log)
		for _, i := range dead {
			l[i] = impl.Pair{}
		}
		return l
	}
	d2 := impl.DictPut(d, num(2), nothing)
	wantDict(t, "2", d2, impl.Dict{Log: log(1), Ints: []int{1, 0, 3, 4}, Live: 3, Turns: 4})
	d3 := impl.DictPut(d2, float(3), nothing)
	wantDict(t, "3", d3, impl.Dict{Log: log(1, 2), Ints: []int{1, 0, 0, 4}, Live: 2, Turns: 4})
	d4 := impl.DictPut(d3, num(4), nothing)
	wantDict(t, "4", d4, impl.Dict{Log: log(1, 2, 3), Ints: []int{1}, Live: 1, Turns: 4})
	wantDict(t, "1", impl.DictPut(d4, num(1), nothing), impl.Dict{Log: log(0, 1, 2, 3), Turns: 4})
}

func TestTakeAwayFromIndex(t *testing.T) {
	for _, k := range []impl.Value{text("x"), num(0), num(-5), num(2), float(0.5), float(math.Inf(1)), truth(0), thing(impl.KTable, 0), builtin(14)} {
		d := dictOf(k)
		wantDict(t, showValue(k), d, impl.Dict{Log: []impl.Pair{pair(k, num(1), 1)}, Index: row(8, start(k, 8), 1), Used: 1, Live: 1, Turns: 1})
		wantDict(t, showValue(k)+" goes", impl.DictPut(d, k, nothing), impl.Dict{Log: make([]impl.Pair, 1), Index: row(8, start(k, 8), -1), Used: 1, Turns: 1})
	}
}

func TestTightOnGoing(t *testing.T) {
	d := without(dictOf(num(1), num(2), text("a"), num(3), text("b"), text("c"), num(4), num(9)), num(1), num(2), text("a"), text("b"))
	if len(d.Log) != 8 || d.Live != 4 {
		t.Fatal(show(d))
	}
	want := impl.Dict{
		Log:   []impl.Pair{pair(num(3), num(4), 4), pair(text("c"), num(6), 6), pair(num(9), num(8), 8)},
		Ints:  []int{0, 0, 1},
		Index: make([]int, 8), Live: 3, Turns: 8,
	}
	modelEnter(&want, 2)
	modelEnter(&want, 3)
	wantDict(t, "the fifth goes", impl.DictPut(d, num(4), nothing), want)
}

func TestTightWithNothingLeftInIndex(t *testing.T) {
	d := without(dictOf(num(1), num(2), num(3), num(4), text("a"), text("b"), text("c"), text("d")), text("b"), text("c"), text("d"), num(4))
	d = impl.DictPut(d, text("a"), nothing)
	wantDict(t, "only ints", d, impl.Dict{
		Log:  []impl.Pair{pair(num(1), num(1), 1), pair(num(2), num(2), 2), pair(num(3), num(3), 3)},
		Ints: []int{1, 2, 3}, Live: 3, Turns: 8,
	})
}

// Seven entries are too few to be loose; with the eighth the log is, and the ninth key finds it so.
func TestTightOnComing(t *testing.T) {
	d := without(dictOf(num(1), num(2), num(3), num(4), num(5), text("x"), num(6)), num(1), num(2), num(3), num(4), num(5))
	d = impl.DictPut(d, text("y"), truth(1))
	if len(d.Log) != 8 || d.Live != 3 || impl.DictOk(d) != 0 {
		t.Fatal(show(d))
	}
	want := impl.Dict{
		Log:   []impl.Pair{pair(text("x"), num(6), 6), pair(num(6), num(7), 7), pair(text("y"), truth(1), 8), pair(num(7), truth(0), 9)},
		Ints:  []int{0, 0, 0, 0, 0, 2, 4},
		Index: make([]int, 8), Live: 4, Turns: 9,
	}
	modelEnter(&want, 1)
	modelEnter(&want, 3)
	wantDict(t, "the ninth comes", impl.DictPut(d, num(7), truth(0)), want)
	tight := impl.DictPut(logOf(8, 0), text("x"), truth(1))
	wantDict(t, "all were dead", tight, impl.Dict{Log: []impl.Pair{pair(text("x"), truth(1), 1)}, Index: row(8, start(text("x"), 8), 1), Used: 1, Live: 1, Turns: 1})
	kept := impl.DictPut(d, num(6), truth(0))
	if len(kept.Log) != 8 {
		t.Errorf("a key that is there made the log tight: %s", show(kept))
	}
}

func TestIntsComeOver(t *testing.T) {
	d := dictOf(num(3), num(2), num(5), text("x"), num(4))
	if len(d.Ints) != 0 || d.Used != 5 || len(d.Index) != 32 {
		t.Fatal(show(d))
	}
	want := copyOf(d)
	for i, x := range want.Index {
		if x > 0 && x != 4 {
			want.Index[i] = -1
		}
	}
	want.Log = append(want.Log, pair(num(1), truth(1), 6))
	want.Ints, want.Live, want.Turns = []int{6, 2, 1, 5, 3}, 6, 6
	wantDict(t, "1 comes", impl.DictPut(d, float(1), truth(1)), want)
}

func TestIntWithPlaceComesBack(t *testing.T) {
	d := without(dictOf(num(1), num(2), num(3)), num(2))
	wantDict(t, "2", impl.DictPut(d, num(2), truth(1)), impl.Dict{
		Log:  []impl.Pair{pair(num(1), num(1), 1), {}, pair(num(3), num(3), 3), pair(num(2), truth(1), 4)},
		Ints: []int{1, 4, 3}, Live: 3, Turns: 4,
	})
}

func TestGoneEntryIsUsedAgain(t *testing.T) {
	a := keyWith(t, 8, 7)
	b := keyWith(t, 8, 7, a)
	c := keyWith(t, 8, 7, a, b)
	d := dictOf(a, b)
	wantDict(t, "over the end", d, impl.Dict{Log: []impl.Pair{pair(a, num(1), 1), pair(b, num(2), 2)}, Index: row(8, 7, 1, 0, 2), Used: 2, Live: 2, Turns: 2})
	d = impl.DictPut(impl.DictPut(d, a, nothing), c, num(3))
	wantDict(t, "the first that is free", d, impl.Dict{Log: []impl.Pair{{}, pair(b, num(2), 2), pair(c, num(3), 3)}, Index: row(8, 7, 3, 0, 2), Used: 2, Live: 2, Turns: 3})
	if got := impl.DictPut(impl.DictPut(d, c, nothing), b, truth(1)); got.Index[7] != -1 || got.Index[0] != 2 || got.Log[1].Val != truth(1) {
		t.Errorf("b is not found over a -1: %s", show(got))
	}
}

func TestIndexMadeAnew(t *testing.T) {
	d := impl.Dict{}
	sizes := []int{8, 8, 8, 8, 32, 32, 32, 32, 32, 32, 32, 32, 32, 32, 32, 32, 128}
	for i, size := range sizes {
		d = impl.DictPut(d, num(int64(i+1)*1000), truth(1))
		if len(d.Index) != size || d.Used != i+1 {
			t.Fatalf("%d keys: %d entries, %d used", i+1, len(d.Index), d.Used)
		}
	}
}

// Four entries that are gone fill half of the index, so that one key more makes it anew, of that key alone.
func TestIndexMadeAnewDropsWhatIsGone(t *testing.T) {
	var keys []impl.Value
	for i := range uint64(5) {
		keys = append(keys, keyWith(t, 8, i))
	}
	d := without(dictOf(keys[:4]...), keys[:4]...)
	if d.Used != 4 || d.Live != 0 || len(d.Log) != 4 {
		t.Fatal(show(d))
	}
	wantDict(t, "anew, though a -1 could be used again", impl.DictPut(d, keys[0], truth(1)), impl.Dict{
		Log: append(make([]impl.Pair, 4), pair(keys[0], truth(1), 5)), Index: row(8, 0, 5), Used: 1, Live: 1, Turns: 5,
	})
	wide := impl.Dict{Index: slices.Repeat([]int{-1, 0}, 32), Used: 32}
	wantDict(t, "anew and smaller", impl.DictPut(wide, keys[4], truth(1)), impl.Dict{
		Log: []impl.Pair{pair(keys[4], truth(1), 1)}, Index: row(8, 4, 1), Used: 1, Live: 1, Turns: 1,
	})
}

func TestMaxPairsMet(t *testing.T) {
	d := logOf(0, impl.MaxPairs-1)
	d = impl.DictPut(d, text("last"), truth(1))
	if d.Live != impl.MaxPairs || impl.DictOk(d) != 0 {
		t.Fatal(d.Live, impl.DictOk(d))
	}
	for _, k := range []impl.Value{num(impl.MaxPairs), num(impl.MaxPairs + 5), text("x"), float(0.5)} {
		wantDict(t, showValue(k), impl.DictPut(d, k, truth(1)), d)
	}
	if got := impl.DictPut(d, text("last"), num(3)); impl.DictGet(got, text("last")) != num(3) {
		t.Error("what is there can be written no more")
	}
	d = impl.DictPut(impl.DictPut(d, num(7), nothing), text("x"), truth(0))
	if d.Live != impl.MaxPairs || impl.DictGet(d, text("x")) != truth(0) {
		t.Error("one that went made no room")
	}
}

// MaxPairs keys without places need the greatest index, of 2048 entries.
func TestMaxPairsInIndex(t *testing.T) {
	d := dictOf(farInts(impl.MaxPairs)...)
	if d.Live != impl.MaxPairs || len(d.Index) != 512*4 || impl.DictOk(d) != 0 {
		t.Fatal(d.Live, len(d.Index), impl.DictOk(d))
	}
}

func TestMostTurnsMet(t *testing.T) {
	d := dictOf(num(1), text("x"))
	d.Turns = mostTurns - 1
	d = impl.DictPut(d, num(2), truth(1))
	if d.Turns != mostTurns || d.Log[2].Turn != mostTurns || impl.DictOk(d) != 0 {
		t.Fatal(show(d))
	}
	for _, k := range []impl.Value{num(3), num(9), text("y")} {
		wantDict(t, showValue(k), impl.DictPut(d, k, truth(1)), d)
	}
	if got := impl.DictPut(d, num(1), truth(0)); got.Log[0].Val != truth(0) {
		t.Error("what is there can be written no more")
	}
	d = impl.DictPut(d, num(1), nothing)
	wantDict(t, "what went comes no more", impl.DictPut(d, num(1), truth(1)), d)
	loose := logOf(5, 3)
	loose.Turns = mostTurns
	wantDict(t, "a loose log stays", impl.DictPut(loose, text("y"), truth(1)), loose)
}

func TestPutRefuses(t *testing.T) {
	d := dictOf(num(1), text("x"))
	for _, k := range []impl.Value{nothing, float(math.NaN()), {Kind: 9}, truth(2), text(strings.Repeat("s", impl.MaxStr+1)), {Kind: impl.KInt, Num: 1, Str: "x"}} {
		wantDict(t, "key "+showValue(k), impl.DictPut(d, k, num(1)), impl.Dict{})
		wantDict(t, "nil at key "+showValue(k), impl.DictPut(d, k, nothing), impl.Dict{})
	}
	for _, v := range []impl.Value{{Kind: -1}, truth(2), builtin(15), thing(impl.KFn, -1), text(strings.Repeat("s", impl.MaxStr+1)), {Num: 1}, {Flt: math.NaN()}} {
		wantDict(t, "value "+showValue(v), impl.DictPut(d, num(1), v), impl.Dict{})
		wantDict(t, "value "+showValue(v)+" at a new key", impl.DictPut(d, num(2), v), impl.Dict{})
	}
	for _, bad := range changed(d) {
		if modelOk(bad) != 0 {
			wantDict(t, "not sound", impl.DictPut(bad, num(1), num(1)), impl.Dict{})
		}
	}
	long := text(strings.Repeat("s", impl.MaxStr))
	if got := impl.DictPut(d, long, float(math.NaN())); impl.DictOk(got) != 0 || !math.IsNaN(impl.DictGet(got, long).Flt) {
		t.Error("the longest string, a NaN as the value")
	}
}

// scribble writes over all memory that a dict can reach, also behind the ends of its lists.
func scribble(d impl.Dict) {
	log, ints, index := d.Log[:cap(d.Log)], d.Ints[:cap(d.Ints)], d.Index[:cap(d.Index)]
	for i := range log {
		log[i] = pair(num(-77), num(-77), -77)
	}
	for i := range ints {
		ints[i] = -77
	}
	for i := range index {
		index[i] = -88
	}
}

func TestPutSharesNothing(t *testing.T) {
	full := without(dictOf(num(1), num(2), num(3), text("a"), text("b"), text("c"), num(4), num(9)), num(2), text("a"), text("b"), text("c"))
	for _, base := range []impl.Dict{full, logOf(5, 3), dictOf(num(1), text("x"), num(9)), {}} {
		for _, k := range []impl.Value{num(1), num(2), num(5), num(9), text("x"), text("new"), nothing} {
			for _, v := range []impl.Value{truth(1), nothing, {Kind: 9}} {
				d := impl.Dict{Log: slices.Grow(slices.Clone(base.Log), 4), Ints: slices.Grow(slices.Clone(base.Ints), 4), Index: slices.Grow(slices.Clone(base.Index), 4), Used: base.Used, Live: base.Live, Turns: base.Turns}
				got := impl.DictPut(d, k, v)
				wantDict(t, "the argument", d, base)
				wantDict(t, "the same argument again", impl.DictPut(d, k, v), got)
				kept := copyOf(got)
				scribble(d)
				wantDict(t, "the answer, the argument written over", got, kept)
				scribble(impl.Dict{Ints: got.Ints})
				if !slices.Equal(got.Index, kept.Index) {
					t.Error("two lists of one answer share memory")
				}
			}
		}
	}
}
