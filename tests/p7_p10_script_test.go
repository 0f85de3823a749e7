package tests

import (
	"fmt"
	"slices"
	"testing"

	"loop.example/shuttle/impl"
)

// P7: tables that get the same fields (at most 12) in the same order have the same shape. P10: a site that reads one field of n tables of one shape misses once; a table of another shape, or of none, makes it miss.

// recordsOf gives n tables these fields, one table after the other.
func recordsOf(n int, fields ...string) []impl.Act {
	var acts []impl.Act
	for table := range n {
		acts = append(acts, actNew())
		for i, key := range fields {
			acts = append(acts, actPut(table, text(key), num(int64(100*table+i))))
		}
	}
	return acts
}

// inTurnOf gives n tables these fields, one field after the other.
func inTurnOf(n int, fields ...string) []impl.Act {
	acts := slices.Repeat([]impl.Act{actNew()}, n)
	for i, key := range fields {
		for table := range n {
			acts = append(acts, actPut(table, text(key), num(int64(100*table+i))))
		}
	}
	return acts
}

// bySitesOf gives n tables these fields by a site for each of them.
func bySitesOf(n int, fields ...string) []impl.Act {
	acts := slices.Repeat([]impl.Act{actNew()}, n)
	for _, key := range fields {
		acts = append(acts, actSite(key))
	}
	for table := range n {
		for i := range fields {
			acts = append(acts, actSetField(i, table, num(int64(100*table+i))))
		}
	}
	return acts
}

// wantOneShape wants all tables from the first one on to have a shape with these fields, and the same one.
func wantOneShape(t *testing.T, what string, s impl.Store, fields ...string) int {
	t.Helper()
	for i, table := range s.Tables {
		if table.Shape != s.Tables[0].Shape || !slices.Equal(impl.Fields(s.Forest, table.Shape), fields) {
			t.Errorf("%s: table %d has the shape %d, the first one %d; its fields are %q", what, i, table.Shape, s.Tables[0].Shape, impl.Fields(s.Forest, table.Shape))
		}
	}
	return s.Tables[0].Shape
}

func TestSameFieldsSameShape(t *testing.T) {
	ways := map[string]func(n int, fields ...string) []impl.Act{"table by table": recordsOf, "field by field": inTurnOf, "by sites": bySitesOf}
	for way, script := range ways {
		for _, n := range []int{1, 2, 3, 40} {
			for _, count := range []int{0, 1, 2, 5, 11, 12} {
				what := fmt.Sprintf("%s, %d tables, %d fields", way, n, count)
				played, _ := wantScript(t, what, script(n, names(count)...))
				wantOneShape(t, what, played.Store, names(count)...)
				if shapes := len(played.Store.Forest.Shapes); shapes != count+1 {
					t.Errorf("%s: %d shapes", what, shapes)
				}
			}
		}
	}
}

func TestOddFieldsSameShape(t *testing.T) {
	fields := []string{"", longKey, "\xff", "\x00", "x", "X"}
	played, _ := wantScript(t, "odd fields", recordsOf(3, fields...))
	wantOneShape(t, "odd fields", played.Store, fields...)
	s := impl.Play([]impl.Act{actNew(), actPut(0, text("x"), num(1)), actNew(), actPut(1, signed(text("x")), num(2))}).Store
	wantOneShape(t, "a zero below 0 beside the key", s, "x")
}

func TestSameFieldsInAnotherOrder(t *testing.T) {
	for _, count := range []int{2, 5, 12} {
		row := names(count)
		back := slices.Clone(row)
		slices.Reverse(back)
		last := slices.Clone(row)
		last[count-1], last[count-2] = last[count-2], last[count-1]
		moved := append(slices.Clone(row[1:]), row[0])
		for what, other := range map[string][]string{"back to front": back, "the last two": last, "the first one last": moved} {
			what = fmt.Sprintf("%d fields, %s", count, what)
			acts := recordsOf(2, row...)
			for table, fields := range [][]string{2: other, 3: other, 4: row} {
				if table < 2 {
					continue
				}
				acts = append(acts, actNew())
				for i, key := range fields {
					acts = append(acts, actPut(table, text(key), num(int64(i))))
				}
			}
			played, _ := wantScript(t, what, acts)
			tables := played.Store.Tables
			if tables[0].Shape == tables[2].Shape || tables[0].Shape != tables[1].Shape || tables[2].Shape != tables[3].Shape || tables[0].Shape != tables[4].Shape {
				t.Errorf("%s: the shapes %d %d %d %d %d", what, tables[0].Shape, tables[1].Shape, tables[2].Shape, tables[3].Shape, tables[4].Shape)
			}
			if got := impl.Fields(played.Store.Forest, tables[2].Shape); !slices.Equal(got, other) {
				t.Errorf("%s: the fields are %q", what, got)
			}
		}
	}
}

func TestOtherFieldsOtherShape(t *testing.T) {
	played, _ := wantScript(t, "fewer fields", append(recordsOf(1, names(12)...), inTurnOf(1)...))
	if tables := played.Store.Tables; tables[0].Shape == tables[1].Shape {
		t.Errorf("12 fields and none have the shape %d", tables[0].Shape)
	}
	shapes := map[int]int{}
	for n := range 13 {
		acts := recordsOf(2, names(12)...)
		acts = append(acts, actNew())
		for _, key := range names(n) {
			acts = append(acts, actPut(2, text(key), num(1)))
		}
		played, _ := wantScript(t, fmt.Sprint(n, " fields"), acts)
		shapes[played.Store.Tables[2].Shape]++
		if same := played.Store.Tables[0].Shape == played.Store.Tables[2].Shape; same != (n == 12) {
			t.Errorf("12 fields and %d: the same shape: %v", n, same)
		}
	}
	if len(shapes) != 13 {
		t.Errorf("%d shapes for 0 to 12 fields", len(shapes))
	}
}

func TestValuesAtFieldsChangeNoShape(t *testing.T) {
	for _, count := range []int{1, 5, 12} {
		acts := recordsOf(3, names(count)...)
		before := impl.Play(acts).Store
		acts = append(acts, actSite("f0"), actSite(names(count)[count-1]))
		for i, v := range validValues()[2:] {
			acts = append(acts, actPut(i%3, text(names(count)[i%count]), v), actSetField(i%2, 0, v), actPut(1, text("none"), nothing), actPut(2, num(1), nothing))
		}
		played, _ := wantScript(t, fmt.Sprint(count, " fields"), acts)
		wantOneShape(t, "values", played.Store, names(count)...)
		if !sameForest(played.Store.Forest, before.Forest) || played.Store.Tables[0].Shape != before.Tables[0].Shape {
			t.Errorf("%d fields: from shape %d of %d to %d of %d", count, before.Tables[0].Shape, len(before.Forest.Shapes), played.Store.Tables[0].Shape, len(played.Store.Forest.Shapes))
		}
	}
}

// A table that lost its shape gets none by the same fields.
func TestNoShapeBehindLosingIt(t *testing.T) {
	acts := append(recordsOf(2, "x", "y"), actPut(1, text("y"), nothing), actPut(1, text("x"), nothing), actPut(1, text("x"), num(1)), actPut(1, text("y"), num(2)))
	played, _ := wantScript(t, "no shape", acts)
	if tables := played.Store.Tables; tables[0].Shape != 2 || tables[1].Shape != -1 {
		t.Errorf("the shapes %d and %d", tables[0].Shape, tables[1].Shape)
	}
}

// readAll reads the field of site 0 in tables from 0 to below n.
func readAll(n int) []impl.Act {
	var acts []impl.Act
	for table := range n {
		acts = append(acts, actField(0, table))
	}
	return acts
}

func wantSite(t *testing.T, what string, acts []impl.Act, want impl.Site) {
	t.Helper()
	played, _ := wantScript(t, what, acts)
	if got := played.Store.Sites[0]; got != want {
		t.Errorf("%s: %v, want %v", what, got, want)
	}
}

func TestSiteMissesOnce(t *testing.T) {
	for _, n := range []int{1, 2, 3, 45, 90} {
		for _, c := range []struct {
			fields []string
			place  int
		}{
			{[]string{"y"}, 0}, {[]string{"x", "y"}, 1}, {[]string{"y", "x"}, 0}, {[]string{"a", "b", "y", "c", "d"}, 2}, {append(names(11), "y"), 11}, {append([]string{"y"}, names(11)...), 0},
		} {
			if n*(len(c.fields)+3)+1 > impl.MaxActs {
				continue
			}
			what := fmt.Sprintf("%d tables, place %d of %d", n, c.place, len(c.fields))
			begin := append([]impl.Act{actSite("y")}, recordsOf(n, c.fields...)...)
			wantSite(t, what+", unread", begin, site("y", -1, 0))
			read := append(begin, readAll(n)...)
			found := site("y", len(c.fields), c.place)
			wantSite(t, what, read, counted(found, n-1, 1))
			wantSite(t, what+", read again", append(read, readAll(n)...), counted(found, 2*n-1, 1))
			played := impl.Play(read)
			for table := range n {
				if got := played.Ans[len(begin)+table]; got != val(num(int64(100*table+c.place))) {
					t.Errorf("%s: table %d answers %v", what, table, got)
				}
			}
		}
	}
}

// Each of two sites has its own counts, and one table that is read often is like many.
func TestSitesCountByThemselves(t *testing.T) {
	acts := append(recordsOf(90, "x", "y"), actSite("x"), actSite("y"), actSite("y"))
	for i := range 90 {
		acts = append(acts, actField(0, i), actField(1, 0), actField(2, 89-i))
	}
	played, _ := wantScript(t, "three sites", acts)
	for i, want := range []impl.Site{counted(site("x", 2, 0), 89, 1), counted(site("y", 2, 1), 89, 1), counted(site("y", 2, 1), 89, 1)} {
		if got := played.Store.Sites[i]; got != want {
			t.Errorf("site %d: %v, want %v", i, got, want)
		}
	}
}

// The table n behind n tables of the shape x, y is made by these acts; what the site has behind a read of it, and behind one of the first table again.
func TestAnotherShapeMakesASiteMiss(t *testing.T) {
	for _, n := range []int{1, 2, 90} {
		put := func(keys ...impl.Value) []impl.Act {
			acts := []impl.Act{actNew()}
			for _, k := range keys {
				acts = append(acts, actPut(n, k, num(7)))
			}
			return acts
		}
		for what, c := range map[string]struct {
			acts          []impl.Act
			answer        impl.Value
			shape, place  int
			misses, again int
		}{
			"the same shape":              {put(text("x"), text("y")), num(7), 2, 1, 0, 0},
			"another order":               {put(text("y"), text("x")), num(7), 4, 0, 1, 1},
			"a field more":                {put(text("x"), text("y"), text("z")), num(7), 3, 1, 1, 1},
			"a field less":                {put(text("x")), nothing, 2, 1, 1, 0},
			"shape 0":                     {put(), nothing, 2, 1, 1, 0},
			"no shape, the key":           {put(text("x"), text("y"), num(1)), num(7), 2, 1, 1, 0},
			"no shape, other keys":        {put(num(1)), nothing, 2, 1, 1, 0},
			"no shape by nil":             {append(put(text("x"), text("y")), actPut(n, text("x"), nothing)), num(7), 2, 1, 1, 0},
			"no shape by nil at its key":  {append(put(text("x"), text("y")), actPut(n, text("y"), nothing)), nothing, 2, 1, 1, 0},
			"no shape, and no key at all": {append(put(text("y")), actPut(n, text("y"), nothing)), nothing, 2, 1, 1, 0},
		} {
			what = fmt.Sprintf("%d tables, %s", n, what)
			acts := append([]impl.Act{actSite("y")}, recordsOf(n, "x", "y")...)
			acts = append(append(append(acts, readAll(n)...), c.acts...), actField(0, n))
			hits := n - 1
			if c.misses == 0 {
				hits++
			}
			wantSite(t, what, acts, counted(site("y", c.shape, c.place), hits, 1+c.misses))
			if got := impl.Play(acts).Ans[len(acts)-1]; got != val(c.answer) {
				t.Errorf("%s: it answers %v", what, got)
			}
			acts = append(acts, actField(0, 0))
			wantSite(t, what+", and back", acts, counted(site("y", 2, 1), hits+1-c.again, 1+c.misses+c.again))
		}
	}
}

// Before it has found anything, a table without a shape is no hit either.
func TestASiteThatFoundNothingMisses(t *testing.T) {
	acts := []impl.Act{actSite("y"), actNew(), actField(0, 0), actPut(0, num(1), num(1)), actField(0, 0), actField(0, 0)}
	wantSite(t, "nothing found", acts, counted(site("y", -1, 0), 0, 3))
}
