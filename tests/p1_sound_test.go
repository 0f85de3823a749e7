package tests

import (
	"fmt"
	"math"
	"slices"
	"testing"

	"loop.example/shuttle/impl"
)

type soundRow struct {
	what string
	d    impl.Dict
	want int
}

func checkSound(t *testing.T, rows []soundRow) {
	t.Helper()
	for _, r := range rows {
		before := show(r.d)
		if got := impl.DictOk(r.d); got != r.want {
			t.Errorf("%s: %d, want %d", r.what, got, r.want)
		}
		if model := modelOk(r.d); model != r.want {
			t.Errorf("%s: the second reading has %d, want %d", r.what, model, r.want)
		}
		if show(r.d) != before {
			t.Errorf("%s: the dict was changed", r.what)
		}
	}
}

// spoil changes a copy of a dict.
func spoil(d impl.Dict, how func(d *impl.Dict)) impl.Dict {
	d = copyOf(d)
	how(&d)
	return d
}

// farInts is n ints that have no places.
func farInts(n int) []impl.Value {
	keys := make([]impl.Value, n)
	for i := range keys {
		keys[i] = num(int64(i+1) * 1000)
	}
	return keys
}

// logOf is a dict of the ints 1 to live, with dead pairs ahead of them.
func logOf(dead, live int) impl.Dict {
	d := impl.Dict{Log: make([]impl.Pair, dead), Live: live, Turns: live}
	for i := range live {
		d.Log = append(d.Log, impl.Pair{Key: num(int64(i) + 1), Val: truth(1), Turn: i + 1})
		d.Ints = append(d.Ints, dead+i+1)
	}
	return d
}

func TestRule1(t *testing.T) {
	base := dictOf(text("x"), num(1))
	checkSound(t, []soundRow{
		{"the zero value", impl.Dict{}, 0},
		{"an ordinary dict", base, 0},
		{"empty lists", impl.Dict{Log: []impl.Pair{}, Ints: []int{}, Index: []int{}}, 0},
		{"Live below 0", spoil(base, func(d *impl.Dict) { d.Live = -1 }), 1},
		{"the least Live", spoil(base, func(d *impl.Dict) { d.Live = math.MinInt64 }), 1},
		{"MaxPairs pairs", logOf(0, impl.MaxPairs), 0},
		{"one pair more", logOf(0, impl.MaxPairs+1), 1},
		{"Turns below 0", spoil(impl.Dict{}, func(d *impl.Dict) { d.Turns = -1 }), 1},
		{"the most turns", spoil(base, func(d *impl.Dict) { d.Turns = mostTurns }), 0},
		{"one turn more", spoil(base, func(d *impl.Dict) { d.Turns = mostTurns + 1 }), 1},
		{"8 dead", logOf(8, 0), 0},
		{"9 dead", logOf(9, 0), 1},
		{"8 entries, 3 live", logOf(5, 3), 0},
		{"9 entries, 4 live", logOf(5, 4), 1},
		{"9 entries, 5 live", logOf(4, 5), 0},
		{"10 entries, 5 live", logOf(5, 5), 0},
		{"11 entries, 5 live", logOf(6, 5), 1},
		{"1000 entries, 500 live", logOf(500, 500), 0},
		{"1001 entries, 500 live", logOf(501, 500), 1},
	})
}

func TestRule2Dead(t *testing.T) {
	base := logOf(1, 2)
	rows := []soundRow{
		{"zeros below 0 in a dead pair", spoil(base, func(d *impl.Dict) { d.Log[0].Key.Flt, d.Log[0].Val.Flt = negZero, negZero }), 0},
	}
	for _, v := range []impl.Value{{Kind: 1}, {Num: 1}, {Flt: 1}, {Flt: math.NaN()}, {Str: "x"}, {Ref: 1}, {Ref: -1}} {
		rows = append(rows,
			soundRow{"a dead key of " + showValue(v), spoil(base, func(d *impl.Dict) { d.Log[0].Key = v }), 2},
			soundRow{"a dead value of " + showValue(v), spoil(base, func(d *impl.Dict) { d.Log[0].Val = v }), 2})
	}
	checkSound(t, rows)
}

func TestRule2Living(t *testing.T) {
	base := dictOf(text("x"), num(1), text("y"))
	turns := func(a, b, c, all int) impl.Dict {
		return spoil(base, func(d *impl.Dict) { d.Log[0].Turn, d.Log[1].Turn, d.Log[2].Turn, d.Turns = a, b, c, all })
	}
	rows := []soundRow{
		{"turns with gaps", turns(2, 5, 9, 9), 0},
		{"turns below their number", turns(1, 2, 3, 99), 0},
		{"a turn twice", turns(1, 2, 2, 3), 2},
		{"turns that descend", turns(1, 3, 2, 3), 2},
		{"a turn below 0", turns(-1, 2, 3, 3), 2},
		{"a turn above Turns", turns(1, 2, 4, 3), 2},
		{"a living pair with turn 0", turns(0, 2, 3, 3), 2},
		{"the greatest turn", turns(1, 2, math.MaxInt64, 3), 2},
		{"Live one too low", spoil(base, func(d *impl.Dict) { d.Live-- }), 2},
		{"Live one too high", spoil(base, func(d *impl.Dict) { d.Live++ }), 2},
	}
	for _, k := range []impl.Value{nothing, float(math.NaN()), float(1), float(negZero), float(-1 << 63), truth(2), builtin(15), thing(impl.KFn, -1), {Kind: 9}, {Kind: impl.KInt, Num: 1, Ref: 1}} {
		rows = append(rows, soundRow{"the key " + showValue(k), spoil(base, func(d *impl.Dict) { d.Log[1].Key = k }), 2})
	}
	for _, v := range []impl.Value{nothing, truth(2), builtin(-1), {Kind: -1}, {Kind: impl.KStr, Num: 1}} {
		rows = append(rows, soundRow{"the value " + showValue(v), spoil(base, func(d *impl.Dict) { d.Log[1].Val = v }), 2})
	}
	for _, v := range []impl.Value{float(math.NaN()), float(1), float(negZero), text(""), {Kind: impl.KInt, Flt: negZero}} {
		rows = append(rows, soundRow{"the value " + showValue(v), spoil(base, func(d *impl.Dict) { d.Log[1].Val = v }), 0})
	}
	key := impl.Value{Kind: impl.KInt, Num: 1, Flt: negZero}
	rows = append(rows, soundRow{"a key with a zero below 0 beside it", spoil(base, func(d *impl.Dict) { d.Log[1].Key = key }), 0})
	checkSound(t, rows)
}

func TestRule3(t *testing.T) {
	base := without(dictOf(num(1), num(2), num(3), text("x"), num(4)), num(2))
	ints := func(row ...int) impl.Dict { return spoil(base, func(d *impl.Dict) { d.Ints = row }) }
	checkSound(t, []soundRow{
		{"a zero between", ints(1, 0, 3, 5), 0},
		{"a zero at the end", ints(1, 0, 3, 5, 0), 3},
		{"nothing but a zero", ints(0), 3},
		{"a zero alone without pairs", impl.Dict{Ints: []int{0}}, 3},
		{"-1", ints(1, 0, 3, -1), 3},
		{"past the log", ints(1, 0, 3, 6), 3},
		{"far past the log", ints(1, 0, math.MaxInt64, 5), 3},
		{"far below the log", ints(1, 0, math.MinInt64, 5), 3},
		{"a dead pair", ints(1, 2, 3, 5), 3},
		{"another int", ints(1, 0, 5, 3), 3},
		{"a string", ints(1, 0, 4, 5), 3},
		{"a pair twice", ints(1, 0, 3, 5, 5), 3},
		{"an entry where there is no log", impl.Dict{Ints: []int{1}}, 3},
	})
}

func TestRule3KindsThatAreNoInts(t *testing.T) {
	for _, k := range []impl.Value{truth(1), builtin(1), thing(impl.KTable, 1), text("1")} {
		d := impl.Dict{Log: []impl.Pair{{Key: k, Val: num(1), Turn: 1}}, Ints: []int{1}, Live: 1, Turns: 1}
		checkSound(t, []soundRow{{showValue(k), d, 3}})
	}
}

func TestRule4Size(t *testing.T) {
	sizes := func(n int) impl.Dict { return impl.Dict{Index: make([]int, n)} }
	var rows []soundRow
	for _, n := range []int{1, 2, 4, 7, 9, 12, 15, 24, 1000, 2047, 2049, 4000, 4096, 8192} {
		rows = append(rows, soundRow{fmt.Sprint("size ", n), sizes(n), 4})
	}
	for n := 8; n <= 2048; n *= 2 {
		rows = append(rows, soundRow{fmt.Sprint("size ", n), sizes(n), 0})
	}
	checkSound(t, rows)
}

func TestRule4Entries(t *testing.T) {
	base := without(dictOf(text("x"), num(1), text("y")), text("y"))
	at := slices.Index(base.Index, 0)
	entry := func(x int) impl.Dict { return spoil(base, func(d *impl.Dict) { d.Index[at] = x; d.Used++ }) }
	used := func(n int) impl.Dict { return spoil(base, func(d *impl.Dict) { d.Used = n }) }
	gone := func(n int) impl.Dict {
		return impl.Dict{Index: slices.Concat(slices.Repeat([]int{-1}, n), make([]int, 8-n)), Used: n}
	}
	checkSound(t, []soundRow{
		{"-1", entry(-1), 0},
		{"-2", entry(-2), 4},
		{"past the log", entry(4), 4},
		{"the greatest entry", entry(math.MaxInt64), 4},
		{"the least entry", entry(math.MinInt64), 4},
		{"a dead pair", entry(3), 4},
		{"an int that has a place", entry(2), 4},
		{"Used one too low", used(1), 4},
		{"Used one too high", used(3), 4},
		{"Used below 0", used(-2), 4},
		{"Used without an index", impl.Dict{Used: 1}, 4},
		{"half of it used", gone(4), 0},
		{"one more than half used", gone(5), 4},
	})
}

// indexed is a dict of the pairs with those keys whose Index is the row as it stands.
func indexed(keys []impl.Value, row ...int) impl.Dict {
	d := impl.Dict{Index: row, Live: len(keys), Turns: len(keys)}
	for i, k := range keys {
		d.Log = append(d.Log, impl.Pair{Key: k, Val: truth(1), Turn: i + 1})
	}
	for _, x := range row {
		if x != 0 {
			d.Used++
		}
	}
	return d
}

// alone is an Index of 8 in which the first pair stands where its key is looked for first.
func alone(k impl.Value) []int {
	row := make([]int, 8)
	row[uint64(impl.HashOf(k))%8] = 1
	return row
}

func TestRule5Index(t *testing.T) {
	x := keyWith(t, 8, 6)
	y := keyWith(t, 8, 6, x)
	index := func(row ...int) impl.Dict { return indexed([]impl.Value{x, y}, row...) }
	checkSound(t, []soundRow{
		{"side by side", index(0, 0, 0, 0, 0, 0, 1, 2), 0},
		{"the other way round", index(0, 0, 0, 0, 0, 0, 2, 1), 0},
		{"over a -1 and the end", index(2, 0, 0, 0, 0, 0, -1, 1), 0},
		{"both over the end", index(1, 2, 0, 0, 0, 0, -1, -1), 0},
		{"behind a 0", index(2, 0, 0, 0, 0, 0, 1, 0), 5},
		{"ahead of where it is looked for", index(0, 0, 0, 0, 0, 2, 1, 0), 5},
		{"in no list", index(0, 0, 0, 0, 0, 0, 1, 0), 5},
		{"without an index", index(), 5},
		{"twice in Index", index(1, 0, 0, 0, 0, 0, 1, 2), 5},
		{"one key in two pairs", indexed([]impl.Value{x, x}, 0, 0, 0, 0, 0, 0, 1, 2), 5},
	})
}

func TestRule5Ints(t *testing.T) {
	two := []impl.Value{num(2)}
	placed := indexed([]impl.Value{num(1), num(1)})
	placed.Ints = []int{1}
	above := indexed([]impl.Value{num(2), num(1)}, alone(num(2))...)
	above.Ints = []int{2}
	farther := indexed([]impl.Value{num(3), num(1)}, alone(num(3))...)
	farther.Ints = []int{2}
	checkSound(t, []soundRow{
		{"an int without a place in no list", indexed(two), 5},
		{"an int without a place in Index", indexed(two, alone(num(2))...), 0},
		{"1 in Index, where there are no Ints", indexed([]impl.Value{num(1)}, alone(num(1))...), 5},
		{"0 in Index, where there are no Ints", indexed([]impl.Value{num(0)}, alone(num(0))...), 0},
		{"one int in two pairs", placed, 5},
		{"2 in Index, where 1 has a place", above, 5},
		{"3 in Index, where 1 has a place", farther, 0},
	})
}

// Every number of some dicts is changed in turn, and both readings of the rules are asked.
func TestRulesAtManyChanges(t *testing.T) {
	bases := []impl.Dict{
		dictOf(text("x"), num(1), num(2), float(0.5), num(5), truth(1)),
		without(dictOf(num(4), num(3), num(2), num(1), text("a"), text("b"), text("c"), num(9)), num(2), text("b")),
		without(dictOf(farInts(6)...), num(3000), num(6000)),
		logOf(3, 4),
	}
	for _, base := range bases {
		seen := map[int]int{}
		for _, d := range changed(base) {
			want := modelOk(d)
			if got := impl.DictOk(d); got != want {
				t.Fatalf("%d, want %d:\n%s", got, want, show(d))
			}
			seen[want]++
		}
		if len(seen) < 5 {
			t.Errorf("these changes meet few rules: %v", seen)
		}
	}
}

func changed(base impl.Dict) []impl.Dict {
	var all []impl.Dict
	change := func(how func(d *impl.Dict)) { all = append(all, spoil(base, how)) }
	for x := -2; x <= len(base.Log)+1; x++ {
		change(func(d *impl.Dict) { d.Live = x })
		change(func(d *impl.Dict) { d.Turns = x })
		change(func(d *impl.Dict) { d.Used = x })
		change(func(d *impl.Dict) { d.Ints = append(d.Ints, x) })
		for i := range base.Ints {
			change(func(d *impl.Dict) { d.Ints[i] = x })
		}
		for i := range base.Index {
			change(func(d *impl.Dict) { d.Index[i] = x })
			change(func(d *impl.Dict) { d.Index[i] = x; d.Used-- })
			change(func(d *impl.Dict) { d.Index[i] = x; d.Used++ })
		}
		for i := range base.Log {
			change(func(d *impl.Dict) { d.Log[i].Turn = x })
			change(func(d *impl.Dict) { d.Log[i].Key = num(int64(x)) })
			change(func(d *impl.Dict) { d.Log[i] = impl.Pair{}; d.Live-- })
			change(func(d *impl.Dict) {
				j := (i + x + 2) % len(d.Log)
				d.Log[i].Key, d.Log[j].Key = d.Log[j].Key, d.Log[i].Key
			})
		}
	}
	for i := range base.Index {
		for j := range i {
			change(func(d *impl.Dict) { d.Index[i], d.Index[j] = d.Index[j], d.Index[i] })
		}
	}
	return all
}
