package tests

import (
	"fmt"
	"math"
	"slices"
	"strings"
	"testing"

	"loop.example/shuttle/impl"
)

var (
	longKey    = strings.Repeat("k", impl.MaxStr)
	tooLongKey = strings.Repeat("k", impl.MaxStr+1)
)

// forestOf has the shapes behind shape 0.
func forestOf(shapes ...impl.Shape) impl.Forest {
	return impl.Forest{Shapes: append([]impl.Shape{{Parent: -1}}, shapes...)}
}

func shape(parent int, key string, count int) impl.Shape {
	return impl.Shape{Parent: parent, Key: key, Count: count}
}

// chain is a forest in which each shape is the parent of the next one; the last one has all the keys.
func chain(keys ...string) impl.Forest {
	f := forestOf()
	for i, k := range keys {
		f.Shapes = append(f.Shapes, shape(i, k, i+1))
	}
	return f
}

// names is n keys that are not the same.
func names(n int) []string {
	row := make([]string, n)
	for i := range row {
		row[i] = fmt.Sprint("f", i)
	}
	return row
}

// wide is a forest of n shapes, all but the first of them with one field.
func wide(n int) impl.Forest {
	f := forestOf()
	for _, k := range names(n - 1) {
		f.Shapes = append(f.Shapes, shape(0, k, 1))
	}
	return f
}

func copyOfForest(f impl.Forest) impl.Forest {
	return impl.Forest{Shapes: slices.Clone(f.Shapes)}
}

func spoilForest(f impl.Forest, how func(shapes []impl.Shape)) impl.Forest {
	f = copyOfForest(f)
	how(f.Shapes)
	return f
}

func sameForest(a, b impl.Forest) bool {
	return slices.Equal(a.Shapes, b.Shapes)
}

type forestRow struct {
	what string
	f    impl.Forest
	want int
}

func checkForests(t *testing.T, rows []forestRow) {
	t.Helper()
	for _, r := range rows {
		before := copyOfForest(r.f)
		if got := impl.ForestOk(r.f); got != r.want {
			t.Errorf("%s: %d, want %d", r.what, got, r.want)
		}
		if model := modelForestOk(r.f); model != r.want {
			t.Errorf("%s: the second reading has %d, want %d", r.what, model, r.want)
		}
		if !sameForest(r.f, before) {
			t.Errorf("%s: the forest was changed", r.what)
		}
	}
}

// someForest is sound and has a shape of three fields, one of two, and the same key below more than one parent.
func someForest() impl.Forest {
	return forestOf(shape(0, "x", 1), shape(1, "y", 2), shape(0, "y", 1), shape(2, "z", 3), shape(3, "x", 2))
}

func TestForestRule1(t *testing.T) {
	checkForests(t, []forestRow{
		{"the zero value", impl.Forest{}, 1},
		{"an empty list", impl.Forest{Shapes: []impl.Shape{}}, 1},
		{"shape 0 alone", forestOf(), 0},
		{"two shapes", wide(2), 0},
		{"an ordinary forest", someForest(), 0},
		{"199 shapes", wide(199), 0},
		{"200 shapes", wide(200), 0},
		{"201 shapes", wide(201), 1},
		{"very many shapes", wide(20000), 1},
	})
}

func TestForestRule2(t *testing.T) {
	first := func(s impl.Shape) impl.Forest { return impl.Forest{Shapes: []impl.Shape{s}} }
	many := func(s impl.Shape) impl.Forest {
		return spoilForest(someForest(), func(shapes []impl.Shape) { shapes[0] = s })
	}
	for _, s := range []impl.Shape{
		shape(0, "", 0), shape(1, "", 0), shape(-2, "", 0), shape(math.MinInt, "", 0), shape(math.MaxInt, "", 0),
		shape(-1, "x", 0), shape(-1, "\x00", 0), shape(-1, longKey, 0), shape(-1, tooLongKey, 0),
		shape(-1, "", 1), shape(-1, "", -1), shape(-1, "", math.MinInt), shape(-1, "", math.MaxInt),
		shape(0, "x", 1), {},
	} {
		what := fmt.Sprintf("%d %.9q %d", s.Parent, s.Key, s.Count)
		checkForests(t, []forestRow{{what + " alone", first(s), 2}, {what + " and others", many(s), 2}})
	}
	checkForests(t, []forestRow{{"as it is to be", first(shape(-1, "", 0)), 0}, {"and others", many(shape(-1, "", 0)), 0}})
}

func TestForestRule3Parent(t *testing.T) {
	with := func(at, parent, count int) impl.Forest {
		return spoilForest(someForest(), func(shapes []impl.Shape) { shapes[at].Parent, shapes[at].Count = parent, count })
	}
	checkForests(t, []forestRow{
		{"-1 at shape 1", with(1, -1, 1), 3},
		{"-1 at shape 1, Count 0", with(1, -1, 0), 3},
		{"-1 at the last shape", with(5, -1, 2), 3},
		{"-2", with(3, -2, 1), 3},
		{"the least", with(3, math.MinInt, 1), 3},
		{"its own number at shape 1", with(1, 1, 1), 3},
		{"its own number at shape 1, Count one above", with(1, 1, 2), 3},
		{"its own number at the last shape", with(5, 5, 2), 3},
		{"one above its own number", with(3, 4, 4), 3},
		{"one above its own number, at the last shape", with(5, 6, 2), 3},
		{"one below its own number", chain("x", "y", "z"), 0},
		{"the number of shapes", with(2, 6, 2), 3},
		{"the greatest", with(3, math.MaxInt, 1), 3},
		{"two shapes that are each other's parents", forestOf(shape(2, "x", 1), shape(1, "y", 2)), 3},
		{"a second shape without fields", forestOf(shape(-1, "", 0)), 3},
		{"0, with the Count that goes with it", with(4, 0, 1), 0},
	})
}

func TestForestRule3Count(t *testing.T) {
	with := func(at, count int) impl.Forest {
		return spoilForest(someForest(), func(shapes []impl.Shape) { shapes[at].Count = count })
	}
	rows := []forestRow{
		{"12 fields", chain(names(12)...), 0},
		{"13 fields", chain(names(13)...), 3},
		{"13 fields in a second branch", forestOf(append([]impl.Shape{shape(0, "other", 1)}, shifted(names(13))...)...), 3},
		{"12 fields in a second branch", forestOf(append([]impl.Shape{shape(0, "other", 1)}, shifted(names(12))...)...), 0},
		{"two of 12 fields below one of 11", forestOf(append(chain(names(12)...).Shapes[1:], shape(11, "other", 12))...), 0},
		{"the Parent's, at the one behind", forestOf(shape(0, "x", 1), shape(1, "y", 1), shape(2, "z", 2)), 3},
	}
	for at, right := range []int{0, 1, 2, 1, 3, 2} {
		for _, count := range []int{right - 2, right - 1, right + 1, right + 2, -right - 1, 12, 13, math.MinInt, math.MaxInt} {
			if at > 0 && count != right {
				rows = append(rows, forestRow{fmt.Sprintf("%d at shape %d", count, at), with(at, count), 3})
			}
		}
	}
	checkForests(t, rows)
}

// shifted is a chain from shape 0 on whose first shape has the number 2.
func shifted(keys []string) []impl.Shape {
	row := []impl.Shape{shape(0, keys[0], 1)}
	for i, k := range keys[1:] {
		row = append(row, shape(i+2, k, i+2))
	}
	return row
}

func TestForestRule3Key(t *testing.T) {
	with := func(at int, key string) impl.Forest {
		return spoilForest(someForest(), func(shapes []impl.Shape) { shapes[at].Key = key })
	}
	rows := []forestRow{
		{"4000 bytes in 2000 signs", with(1, strings.Repeat("é", 2000)), 0},
		{"4002 bytes in 2001 signs", with(1, strings.Repeat("é", 2001)), 3},
	}
	for at := 1; at <= 5; at++ {
		rows = append(rows, forestRow{fmt.Sprint("4000 bytes at shape ", at), with(at, longKey), 0})
		rows = append(rows, forestRow{fmt.Sprint("4001 bytes at shape ", at), with(at, tooLongKey), 3})
		rows = append(rows, forestRow{fmt.Sprint("empty at shape ", at), with(at, ""), 0})
		rows = append(rows, forestRow{fmt.Sprint("no text in UTF-8 at shape ", at), with(at, "\xff\x00\xfe"), 0})
	}
	checkForests(t, rows)
}

func TestForestRule4(t *testing.T) {
	checkForests(t, []forestRow{
		{"two, one behind the other", forestOf(shape(0, "x", 1), shape(0, "x", 1)), 4},
		{"two with others between", forestOf(shape(0, "x", 1), shape(0, "y", 1), shape(1, "y", 2), shape(0, "x", 1)), 4},
		{"two below another shape", forestOf(shape(0, "x", 1), shape(1, "y", 2), shape(1, "z", 2), shape(1, "y", 2)), 4},
		{"two with empty keys", forestOf(shape(0, "", 1), shape(0, "", 1)), 4},
		{"two with long keys", forestOf(shape(0, longKey, 1), shape(0, longKey, 1)), 4},
		{"two with 12 fields", forestOf(append(chain(names(12)...).Shapes[1:], shape(11, "f11", 12))...), 4},
		{"the second one has kids", forestOf(shape(0, "x", 1), shape(0, "x", 1), shape(2, "y", 2)), 4},
		{"both have kids", forestOf(shape(0, "x", 1), shape(0, "x", 1), shape(1, "y", 2), shape(2, "y", 2)), 4},
		{"the last two of 200", spoilForest(wide(200), func(shapes []impl.Shape) { shapes[199].Key = shapes[198].Key }), 4},
		{"the first and the last of 200", spoilForest(wide(200), func(shapes []impl.Shape) { shapes[199].Key = shapes[1].Key }), 4},
		{"one key below two parents", forestOf(shape(0, "x", 1), shape(0, "y", 1), shape(1, "z", 2), shape(2, "z", 2)), 0},
		{"one key below a parent and that one's parent", forestOf(shape(0, "x", 1), shape(0, "y", 1), shape(1, "y", 2)), 0},
		{"the same fields in another order", forestOf(shape(0, "x", 1), shape(1, "y", 2), shape(0, "y", 1), shape(3, "x", 2)), 0},
		{"the empty key below two parents", forestOf(shape(0, "", 1), shape(0, "x", 1), shape(2, "", 2)), 0},
		{"keys that differ in case", forestOf(shape(0, "x", 1), shape(0, "X", 1)), 0},
		{"keys that differ in a zero byte", forestOf(shape(0, "x", 1), shape(0, "x\x00", 1), shape(0, "\x00", 1), shape(0, "", 1)), 0},
		{"keys that look the same", forestOf(shape(0, "\u00e9", 1), shape(0, "e\u0301", 1)), 0},
		{"keys that are no text in UTF-8", forestOf(shape(0, "\xff", 1), shape(0, "\xfe", 1)), 0},
		{"long keys that differ in the last byte", forestOf(shape(0, longKey, 1), shape(0, longKey[1:]+"l", 1)), 0},
	})
}

func TestForestRule5(t *testing.T) {
	twelve := func(last string) impl.Forest { return chain(append(names(11), last)...) }
	checkForests(t, []forestRow{
		{"the key of the parent", chain("x", "x"), 5},
		{"the key of the parent's parent", chain("x", "y", "x"), 5},
		{"the first of 12 fields", twelve("f0"), 5},
		{"the last but one of 12 fields", twelve("f10"), 5},
		{"in the middle of a row", chain("x", "y", "y", "z"), 5},
		{"empty keys", chain("", ""), 5},
		{"empty keys, others between", chain("x", "", "y", ""), 5},
		{"long keys", chain(longKey, "x", longKey), 5},
		{"below a shape that has a sound kid", forestOf(shape(0, "x", 1), shape(1, "y", 2), shape(1, "x", 2)), 5},
		{"one empty key ahead", chain("", "x"), 0},
		{"one empty key behind", chain("x", ""), 0},
		{"the empty key alone", chain(""), 0},
		{"a field of a shape beside", forestOf(shape(0, "x", 1), shape(0, "y", 1), shape(2, "x", 2)), 0},
		{"12 fields", twelve("f11"), 0},
		{"12 fields, one of them empty", twelve(""), 0},
		{"keys that differ in case", chain("x", "X"), 0},
		{"keys that begin alike", chain("x", "xx", "xxx", "x\x00"), 0},
	})
}

// Of two rules that fail, the later one fails at the earlier shape.
func TestForestFirstRule(t *testing.T) {
	checkForests(t, []forestRow{
		{"1 and 2", spoilForest(wide(201), func(shapes []impl.Shape) { shapes[0].Parent = 0 }), 1},
		{"1 and 3", spoilForest(wide(201), func(shapes []impl.Shape) { shapes[1].Parent = -1 }), 1},
		{"1 and 4", spoilForest(wide(201), func(shapes []impl.Shape) { shapes[2].Key = shapes[1].Key }), 1},
		{"1 and 5", spoilForest(wide(201), func(shapes []impl.Shape) { shapes[2] = shape(1, shapes[1].Key, 2) }), 1},
		{"2 and 3", impl.Forest{Shapes: []impl.Shape{{}, shape(1, "x", 5)}}, 2},
		{"2 and 4", impl.Forest{Shapes: []impl.Shape{{}, shape(0, "x", 1), shape(0, "x", 1)}}, 2},
		{"2 and 5", impl.Forest{Shapes: []impl.Shape{{}, shape(0, "x", 1), shape(1, "x", 2)}}, 2},
		{"3 and 4", forestOf(shape(0, "x", 1), shape(0, "x", 1), shape(0, "y", 2)), 3},
		{"3 and 4 by a long key", forestOf(shape(0, "x", 1), shape(0, "x", 1), shape(0, tooLongKey, 1)), 3},
		{"3 and 5", forestOf(shape(0, "x", 1), shape(1, "x", 2), shape(3, "y", 3)), 3},
		{"4 and 5", forestOf(shape(0, "x", 1), shape(1, "x", 2), shape(0, "y", 1), shape(0, "y", 1)), 4},
		{"4 by two that fail 5", forestOf(shape(0, "x", 1), shape(1, "x", 2), shape(1, "x", 2)), 4},
		{"all", impl.Forest{Shapes: slices.Concat(make([]impl.Shape, 3), wide(201).Shapes)}, 1},
	})
}

// Every number and key of a sound forest is changed in turn to one that is often wrong, two at a time.
func TestForestRulesAtManyChanges(t *testing.T) {
	seen := map[int]int{}
	r := dice(5)
	keys := []string{"", "x", "y", "z", longKey, tooLongKey}
	for range 20000 {
		f := copyOfForest(someForest())
		for range 1 + r.below(2) {
			at := r.below(len(f.Shapes))
			switch r.below(3) {
			case 0:
				f.Shapes[at].Parent = r.below(8) - 1
			case 1:
				f.Shapes[at].Key = keys[r.below(len(keys))]
			default:
				f.Shapes[at].Parent = r.below(at + 1)
				f.Shapes[at].Count = f.Shapes[f.Shapes[at].Parent].Count + 1
			}
		}
		got, want := impl.ForestOk(f), modelForestOk(f)
		if got != want {
			t.Fatalf("%.80q: %d, want %d", fmt.Sprint(f), got, want)
		}
		seen[got]++
	}
	for _, rule := range []int{0, 2, 3, 4, 5} {
		if seen[rule] < 100 {
			t.Errorf("answer %d was met %d times", rule, seen[rule])
		}
	}
}
