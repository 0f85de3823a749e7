package tests

import (
	"fmt"
	"math"
	"slices"
	"testing"

	"loop.example/shuttle/impl"
)

func wantFields(t *testing.T, what string, f impl.Forest, shape int, want ...string) {
	t.Helper()
	before := copyOfForest(f)
	if got := impl.Fields(f, shape); !slices.Equal(got, want) {
		t.Errorf("%s: the fields of shape %d: %.80q, want %.80q", what, shape, got, want)
	}
	for place, key := range want {
		wantFieldAt(t, what, f, shape, key, place)
	}
	if !sameForest(f, before) {
		t.Errorf("%s: the forest was changed", what)
	}
}

func wantFieldAt(t *testing.T, what string, f impl.Forest, shape int, key string, want int) {
	t.Helper()
	if got := impl.FieldAt(f, shape, key); got != want {
		t.Errorf("%s: field %.20q of shape %d at %d, want %d", what, key, shape, got, want)
	}
}

func wantGrown(t *testing.T, what string, f impl.Forest, shape int, key string, want impl.Grown) {
	t.Helper()
	before := copyOfForest(f)
	got := impl.Grow(f, shape, key)
	if got.Shape != want.Shape || !sameForest(got.Forest, want.Forest) {
		t.Errorf("%s: shape %d of %d, want %d of %d: %.200q", what, got.Shape, len(got.Forest.Shapes), want.Shape, len(want.Forest.Shapes), fmt.Sprint(got))
	}
	if !sameForest(f, before) {
		t.Errorf("%s: the forest was changed", what)
	}
}

// noShape is what is answered to a question that is not right.
var noShape = impl.Grown{Shape: -1}

// brokenForests has one forest for each rule of ForestOk.
func brokenForests() []impl.Forest {
	return []impl.Forest{
		{},
		wide(201),
		{Shapes: []impl.Shape{{}, shape(0, "x", 1)}},
		forestOf(shape(0, "x", 2)),
		forestOf(shape(0, "x", 1), shape(0, "x", 1)),
		forestOf(shape(0, "x", 1), shape(1, "x", 2)),
	}
}

// wrongShapes has numbers that no shape of the forest has.
func wrongShapes(f impl.Forest) []int {
	n := len(f.Shapes)
	return []int{-1, -2, -n, n, n + 1, math.MinInt, math.MaxInt}
}

func TestFields(t *testing.T) {
	f := someForest()
	wantFields(t, "some", forestOf(), 0)
	wantFields(t, "some", f, 0)
	wantFields(t, "some", f, 1, "x")
	wantFields(t, "some", f, 2, "x", "y")
	wantFields(t, "some", f, 3, "y")
	wantFields(t, "some", f, 4, "x", "y", "z")
	wantFields(t, "some", f, 5, "y", "x")
	wantFields(t, "12 fields", chain(names(12)...), 12, names(12)...)
	wantFields(t, "11 of 12 fields", chain(names(12)...), 11, names(11)...)
	wantFields(t, "the last of 200 shapes", wide(200), 199, "f198")
	wantFields(t, "a long key", chain("x", longKey), 2, "x", longKey)
	wantFields(t, "keys that are no text in UTF-8", chain("\xff", "\xfe", "\x00"), 3, "\xff", "\xfe", "\x00")
}

func TestFieldsWithEmptyKeys(t *testing.T) {
	f := forestOf(shape(0, "", 1), shape(1, "x", 2), shape(0, "x", 1), shape(3, "", 2))
	wantFields(t, "alone", f, 1, "")
	wantFields(t, "ahead", f, 2, "", "x")
	wantFields(t, "behind", f, 4, "x", "")
	wantFieldAt(t, "shape 0 has no field", f, 0, "", -1)
	wantFieldAt(t, "in another shape alone", f, 3, "", -1)
}

func TestFieldAtOfKeysThatAreNoFields(t *testing.T) {
	f := someForest()
	for _, key := range []string{"", "x", "nothing", longKey, tooLongKey} {
		wantFieldAt(t, "shape 0", f, 0, key, -1)
	}
	wantFieldAt(t, "nowhere", f, 4, "w", -1)
	wantFieldAt(t, "the empty key", f, 4, "", -1)
	wantFieldAt(t, "more than MaxStr bytes", f, 4, tooLongKey, -1)
	wantFieldAt(t, "a kid's", f, 1, "y", -1)
	wantFieldAt(t, "a kid's kid's", f, 1, "z", -1)
	wantFieldAt(t, "of a shape beside", f, 1, "y", -1)
	wantFieldAt(t, "of a shape beside", f, 5, "z", -1)
	wantFieldAt(t, "in another case", f, 4, "X", -1)
	wantFieldAt(t, "longer by a byte", f, 4, "x\x00", -1)
	wantFieldAt(t, "the 12th in one of 11", chain(names(12)...), 11, "f11", -1)
}

func TestFieldsOfNoShape(t *testing.T) {
	for _, f := range []impl.Forest{forestOf(), someForest(), wide(200), chain("")} {
		for _, shape := range wrongShapes(f) {
			wantFields(t, "no such shape", f, shape)
			for _, key := range []string{"x", "", "f0"} {
				wantFieldAt(t, "no such shape", f, shape, key, -1)
			}
		}
	}
}

func TestFieldsOfBrokenForests(t *testing.T) {
	for _, f := range brokenForests() {
		what := fmt.Sprint("rule ", impl.ForestOk(f))
		for _, shape := range []int{-1, 0, 1, 2, 200} {
			wantFields(t, what, f, shape)
			for _, key := range []string{"x", "", "f0"} {
				wantFieldAt(t, what, f, shape, key, -1)
			}
		}
	}
}

// behind is the forest with one shape more, and that one's number.
func behind(f impl.Forest, s impl.Shape) impl.Grown {
	return impl.Grown{Forest: impl.Forest{Shapes: append(slices.Clone(f.Shapes), s)}, Shape: len(f.Shapes)}
}

func TestGrowNew(t *testing.T) {
	f := someForest()
	wantGrown(t, "shape 0 alone", forestOf(), 0, "x", behind(forestOf(), shape(0, "x", 1)))
	wantGrown(t, "shape 0", f, 0, "z", behind(f, shape(0, "z", 1)))
	wantGrown(t, "one in the middle", f, 1, "w", behind(f, shape(1, "w", 2)))
	wantGrown(t, "the last one", f, 5, "z", behind(f, shape(5, "z", 3)))
	wantGrown(t, "a field of others", f, 3, "z", behind(f, shape(3, "z", 2)))
	wantGrown(t, "4000 bytes", f, 4, longKey, behind(f, shape(4, longKey, 4)))
	wantGrown(t, "no text in UTF-8", f, 4, "\xff", behind(f, shape(4, "\xff", 4)))
	wantGrown(t, "in another case", f, 1, "X", behind(f, shape(1, "X", 2)))
	wantGrown(t, "the 12th field", chain(names(11)...), 11, "x", behind(chain(names(11)...), shape(11, "x", 12)))
	wantGrown(t, "the 200th shape", wide(199), 0, "x", behind(wide(199), shape(0, "x", 1)))
	wantGrown(t, "the 200th shape, below the last", wide(199), 198, "x", behind(wide(199), shape(198, "x", 2)))
}

func TestGrowFound(t *testing.T) {
	f := someForest()
	for i, s := range f.Shapes[1:] {
		wantGrown(t, fmt.Sprint("shape ", i+1), f, s.Parent, s.Key, impl.Grown{Forest: f, Shape: i + 1})
	}
	full := wide(200)
	wantGrown(t, "the first of a full forest", full, 0, "f0", impl.Grown{Forest: full, Shape: 1})
	wantGrown(t, "the last of a full forest", full, 0, "f198", impl.Grown{Forest: full, Shape: 199})
	twelve := chain(names(12)...)
	wantGrown(t, "a 12th field", twelve, 11, "f11", impl.Grown{Forest: twelve, Shape: 12})
	long := chain("x", longKey)
	wantGrown(t, "a long key", long, 1, longKey, impl.Grown{Forest: long, Shape: 2})
}

func TestGrowByTheEmptyKey(t *testing.T) {
	f := forestOf(shape(0, "x", 1))
	wantGrown(t, "shape 0", f, 0, "", behind(f, shape(0, "", 1)))
	wantGrown(t, "shape 1", f, 1, "", behind(f, shape(1, "", 2)))
	f = forestOf(shape(0, "x", 1), shape(0, "", 1), shape(1, "", 2))
	wantGrown(t, "shape 0, found", f, 0, "", impl.Grown{Forest: f, Shape: 2})
	wantGrown(t, "shape 1, found", f, 1, "", impl.Grown{Forest: f, Shape: 3})
	wantGrown(t, "a field already", f, 2, "", noShape)
	wantGrown(t, "a field already", f, 3, "", noShape)
	wantGrown(t, "a full forest", wide(200), 0, "", impl.Grown{Forest: wide(200), Shape: -1})
}

func TestGrowWhereThereCanBeNone(t *testing.T) {
	full := wide(200)
	none := impl.Grown{Forest: full, Shape: -1}
	wantGrown(t, "full, shape 0", full, 0, "x", none)
	wantGrown(t, "full, a key that is there elsewhere", full, 1, "f1", none)
	wantGrown(t, "full, the last shape", full, 199, "x", none)
	wantGrown(t, "full, 4000 bytes", full, 0, longKey, none)
	twelve := chain(names(12)...)
	none = impl.Grown{Forest: twelve, Shape: -1}
	wantGrown(t, "12 fields", twelve, 12, "x", none)
	wantGrown(t, "12 fields, the empty key", twelve, 12, "", none)
	wantGrown(t, "12 fields, 4000 bytes", twelve, 12, longKey, none)
	both := chain(names(12)...)
	for len(both.Shapes) < impl.MaxShapes {
		both.Shapes = append(both.Shapes, shape(1, fmt.Sprint("g", len(both.Shapes)), 2))
	}
	wantGrown(t, "12 fields in a full forest", both, 12, "x", impl.Grown{Forest: both, Shape: -1})
}

func TestGrowAskedWrongly(t *testing.T) {
	f := someForest()
	for _, shape := range wrongShapes(f) {
		wantGrown(t, fmt.Sprint("shape ", shape), f, shape, "w", noShape)
		wantGrown(t, fmt.Sprint("shape ", shape, ", the empty key"), f, shape, "", noShape)
	}
	for _, shape := range []int{0, 1, 5} {
		wantGrown(t, fmt.Sprint("4001 bytes, shape ", shape), f, shape, tooLongKey, noShape)
	}
	for shape := range f.Shapes {
		for _, key := range modelRow(f, shape) {
			wantGrown(t, fmt.Sprintf("%q is a field of %d", key, shape), f, shape, key, noShape)
		}
	}
	for _, broken := range brokenForests() {
		for _, shape := range []int{-1, 0, 1, 200} {
			wantGrown(t, fmt.Sprintf("rule %d, shape %d", impl.ForestOk(broken), shape), broken, shape, "w", noShape)
		}
	}
}

// Where there is no room either, a question that is not right is still answered as such.
func TestGrowAskedWronglyWithoutRoom(t *testing.T) {
	full, twelve := wide(200), chain(names(12)...)
	for _, shape := range wrongShapes(full) {
		wantGrown(t, fmt.Sprint("full, shape ", shape), full, shape, "x", noShape)
	}
	wantGrown(t, "full, 4001 bytes", full, 0, tooLongKey, noShape)
	wantGrown(t, "full, a field already", full, 1, "f0", noShape)
	wantGrown(t, "12 fields, 4001 bytes", twelve, 12, tooLongKey, noShape)
	wantGrown(t, "12 fields, the first of them", twelve, 12, "f0", noShape)
	wantGrown(t, "12 fields, the last of them", twelve, 12, "f11", noShape)
}

// scribbleShapes writes over all that a list of shapes has room for.
func scribbleShapes(shapes []impl.Shape) {
	shapes = shapes[:cap(shapes)]
	for i := range shapes {
		shapes[i] = shape(-7, "scribble", -7)
	}
}

func TestGrowSharesNothing(t *testing.T) {
	roomy := func(f impl.Forest) impl.Forest {
		return impl.Forest{Shapes: append(make([]impl.Shape, 0, 2*len(f.Shapes)+8), f.Shapes...)}
	}
	for _, c := range []struct {
		what  string
		f     impl.Forest
		shape int
		key   string
	}{
		{"new", someForest(), 2, "w"},
		{"found", someForest(), 2, "z"},
		{"full", wide(200), 0, "w"},
		{"12 fields", chain(names(12)...), 12, "w"},
		{"not asked rightly", someForest(), 2, "x"},
	} {
		f := roomy(c.f)
		got := impl.Grow(f, c.shape, c.key)
		kept := impl.Grown{Forest: copyOfForest(got.Forest), Shape: got.Shape}
		if !slices.Equal(f.Shapes[len(f.Shapes):cap(f.Shapes)], make([]impl.Shape, cap(f.Shapes)-len(f.Shapes))) {
			t.Errorf("%s: something was written behind the shapes", c.what)
		}
		scribbleShapes(f.Shapes)
		if !sameForest(got.Forest, kept.Forest) {
			t.Errorf("%s: the answer follows the argument", c.what)
		}
		f = roomy(c.f)
		scribbleShapes(impl.Grow(f, c.shape, c.key).Forest.Shapes)
		if !sameForest(f, c.f) {
			t.Errorf("%s: the argument follows the answer", c.what)
		}
		if again := impl.Grow(f, c.shape, c.key); again.Shape != kept.Shape || !sameForest(again.Forest, kept.Forest) {
			t.Errorf("%s: another answer the second time", c.what)
		}
	}
}

func TestFieldsAreNewMemory(t *testing.T) {
	f := someForest()
	row := impl.Fields(f, 4)
	for i := range row[:cap(row)] {
		row[:cap(row)][i] = "scribble"
	}
	wantFields(t, "behind scribbling", f, 4, "x", "y", "z")
	wantFields(t, "behind scribbling", f, 2, "x", "y")
}

// Forests grow by themselves until they are full, with wrong questions between.
func TestGrowInLongRuns(t *testing.T) {
	met := map[string]int{}
	for seed := range 6 {
		r := dice(seed)
		keys := append(names(6+5*seed), "", longKey, tooLongKey, "\xff")
		f := forestOf()
		for step := range 450 {
			shape := r.below(len(f.Shapes)+2) - 1
			if r.below(4) > 0 {
				shape = len(f.Shapes) - 1 - r.below(min(2, len(f.Shapes)))
			}
			key := keys[r.below(len(keys))]
			what := fmt.Sprintf("seed %d, step %d, shape %d, key %.9q", seed, step, shape, key)
			want := modelGrow(f, shape, key)
			wantGrown(t, what, f, shape, key, want)
			if got := impl.Grow(f, shape, key); got.Shape >= 0 {
				wantGrownRow(t, what, f, shape, key, got)
			}
			if t.Failed() {
				return
			}
			met[kindOfGrown(f, want)]++
			if want.Shape >= 0 {
				f = want.Forest
			}
		}
	}
	for _, kind := range []string{"new", "found", "full", "no room in the shape", "not asked rightly"} {
		if met[kind] < 5 {
			t.Errorf("%s: met %d times", kind, met[kind])
		}
	}
}

func kindOfGrown(f impl.Forest, g impl.Grown) string {
	switch {
	case g.Shape == len(f.Shapes):
		return "new"
	case g.Shape >= 0:
		return "found"
	case len(g.Forest.Shapes) == impl.MaxShapes:
		return "full"
	case len(g.Forest.Shapes) > 0:
		return "no room in the shape"
	}
	return "not asked rightly"
}

// wantGrownRow holds a shape that was found or made against the one that it grew from, and all others against what they were.
func wantGrownRow(t *testing.T, what string, f impl.Forest, shape int, key string, got impl.Grown) {
	t.Helper()
	if rule := impl.ForestOk(got.Forest); rule != 0 {
		t.Errorf("%s: the forest fails rule %d", what, rule)
	}
	wantFields(t, what, got.Forest, got.Shape, append(impl.Fields(f, shape), key)...)
	for i := 0; i < len(f.Shapes); i += 1 + len(f.Shapes)/4 {
		wantFields(t, what, got.Forest, i, modelFields(f, i)...)
	}
	if again := impl.Grow(got.Forest, shape, key); again.Shape != got.Shape || !sameForest(again.Forest, got.Forest) {
		t.Errorf("%s: not found again", what)
	}
}
