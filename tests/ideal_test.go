package tests

import (
	"fmt"
	"math"
	"testing"

	"loop.example/shuttle/impl"
)

// Ideally as chapter 5 says: each Op and each code of chapter 4 on plain lists of pairs.

func TestIdeallyReads(t *testing.T) {
	_, ideal := wantSteps(t, "reads", []step{
		{actNew(), numbered(0)},
		{actNew(), numbered(1)},
		{actAfter(0, 0), impl.Ans{}},
		{actLen(0), numbered(0)},
		{actCount(0), numbered(0)},
		{actGet(0, text("x")), impl.Ans{}},
		{actPut(0, num(2), text("two")), impl.Ans{}},
		{actPut(0, text("x"), float(negZero)), impl.Ans{}},
		{actPut(0, float(1), text("one")), impl.Ans{}},
		{actPut(0, float(0.5), truth(0)), impl.Ans{}},
		{actPut(0, num(4), thing(impl.KTask, 9)), impl.Ans{}},
		{actGet(0, num(1)), val(text("one"))},
		{actGet(0, float(2)), val(text("two"))},
		{actGet(0, text("x")), val(float(negZero))},
		{actGet(0, text("X")), impl.Ans{}},
		{actGet(0, num(3)), impl.Ans{}},
		{actGet(0, float(0.25)), impl.Ans{}},
		{actGet(1, num(1)), impl.Ans{}},
		{actAfter(0, 0), impl.Ans{Num: 1, Key: num(2), Val: text("two")}},
		{actAfter(0, 1), impl.Ans{Num: 2, Key: text("x"), Val: float(negZero)}},
		{actAfter(0, 2), impl.Ans{Num: 3, Key: num(1), Val: text("one")}},
		{actAfter(0, 4), impl.Ans{Num: 5, Key: num(4), Val: thing(impl.KTask, 9)}},
		{actAfter(0, 5), impl.Ans{}},
		{actAfter(0, mostTurns), impl.Ans{}},
		{actLen(0), numbered(2)},
		{actCount(0), numbered(5)},
		{actPut(0, num(3), float(math.NaN())), impl.Ans{}},
		{actGet(0, num(3)), val(float(math.NaN()))},
		{actLen(0), numbered(4)},
		{actLen(1), numbered(0)},
		{actCount(1), numbered(0)},
	})
	wantPlain(t, "the first table", ideal.Tables[0], 6,
		pair(num(2), text("two"), 1), pair(text("x"), float(negZero), 2), pair(num(1), text("one"), 3),
		pair(float(0.5), truth(0), 4), pair(num(4), thing(impl.KTask, 9), 5), pair(num(3), float(math.NaN()), 6))
	wantPlain(t, "the other one", ideal.Tables[1], 0)
}

// A key that goes leaves the list and comes last, with a new Turn, when it comes again; a key that stays keeps place and Turn.
func TestIdeallyWrites(t *testing.T) {
	for what, keys := range map[string][3]impl.Value{
		"fields":         {text("x"), text("y"), text("z")},
		"ints":           {num(1), num(2), num(3)},
		"ints far apart": {num(-5), num(1 << 40), num(0)},
		"of many kinds":  {float(0.5), truth(1), text("")},
		"things":         {thing(impl.KTable, 0), thing(impl.KFn, 0), builtin(0)},
	} {
		a, b, c := keys[0], keys[1], keys[2]
		begin := []step{{actNew(), numbered(0)}, {actPut(0, a, num(1)), impl.Ans{}}, {actPut(0, b, num(2)), impl.Ans{}}, {actPut(0, c, num(3)), impl.Ans{}}}
		_, ideal := wantSteps(t, what, begin)
		wantPlain(t, what, ideal.Tables[0], 3, pair(a, num(1), 1), pair(b, num(2), 2), pair(c, num(3), 3))

		_, ideal = wantSteps(t, what, append(begin, step{actPut(0, a, num(4)), impl.Ans{}}, step{actPut(0, b, num(5)), impl.Ans{}}))
		wantPlain(t, what+", written again", ideal.Tables[0], 3, pair(a, num(4), 1), pair(b, num(5), 2), pair(c, num(3), 3))

		gone := append(begin, step{actPut(0, b, nothing), impl.Ans{}}, step{actGet(0, b), impl.Ans{}}, step{actCount(0), numbered(2)},
			step{actAfter(0, 1), impl.Ans{Num: 3, Key: c, Val: num(3)}})
		_, ideal = wantSteps(t, what, gone)
		wantPlain(t, what+", one went", ideal.Tables[0], 3, pair(a, num(1), 1), pair(c, num(3), 3))

		_, ideal = wantSteps(t, what, append(gone, step{actPut(0, b, nothing), impl.Ans{}}, step{actCount(0), numbered(2)}))
		wantPlain(t, what+", it went twice", ideal.Tables[0], 3, pair(a, num(1), 1), pair(c, num(3), 3))

		back := append(gone, step{actPut(0, b, num(6)), impl.Ans{}}, step{actAfter(0, 3), impl.Ans{Num: 4, Key: b, Val: num(6)}})
		_, ideal = wantSteps(t, what, back)
		wantPlain(t, what+", it came again", ideal.Tables[0], 4, pair(a, num(1), 1), pair(c, num(3), 3), pair(b, num(6), 4))

		none := append(gone, step{actPut(0, a, nothing), impl.Ans{}}, step{actPut(0, c, nothing), impl.Ans{}}, step{actCount(0), numbered(0)}, step{actAfter(0, 0), impl.Ans{}})
		_, ideal = wantSteps(t, what, none)
		wantPlain(t, what+", all went", ideal.Tables[0], 3)

		_, ideal = wantSteps(t, what, append(none, step{actPut(0, c, num(7)), impl.Ans{}}))
		wantPlain(t, what+", one came behind all", ideal.Tables[0], 4, pair(c, num(7), 4))
	}
}

func TestIdeallyWritesNilWhereThereIsNothing(t *testing.T) {
	for _, none := range []impl.Value{nothing, {Flt: negZero}} {
		_, ideal := wantSteps(t, "nil", []step{
			{actNew(), numbered(0)},
			{actSite("x"), numbered(0)},
			{actPut(0, text("x"), none), impl.Ans{}},
			{actPut(0, num(1), none), impl.Ans{}},
			{actSetField(0, 0, none), impl.Ans{}},
			{actCount(0), numbered(0)},
			{actPut(0, text("y"), num(1)), impl.Ans{}},
			{actSetField(0, 0, none), impl.Ans{}},
		})
		wantPlain(t, "nil", ideal.Tables[0], 1, pair(text("y"), num(1), 1))
	}
}

func TestIdeallyAtSites(t *testing.T) {
	_, ideal := wantSteps(t, "sites", []step{
		{actSite("x"), numbered(0)},
		{actSite("x"), numbered(1)},
		{actSite(""), numbered(2)},
		{actSite(longKey), numbered(3)},
		{actNew(), numbered(0)},
		{actNew(), numbered(1)},
		{actField(0, 0), impl.Ans{}},
		{actSetField(0, 0, num(1)), impl.Ans{}},
		{actSetField(2, 0, num(2)), impl.Ans{}},
		{actSetField(3, 0, num(3)), impl.Ans{}},
		{actField(1, 0), val(num(1))},
		{actSetField(1, 0, num(4)), impl.Ans{}},
		{actField(0, 0), val(num(4))},
		{actField(0, 1), impl.Ans{}},
		{actGet(0, text(longKey)), val(num(3))},
		{actSetField(2, 0, nothing), impl.Ans{}},
		{actField(2, 0), impl.Ans{}},
		{actSetField(2, 0, num(5)), impl.Ans{}},
		{actPut(1, num(1), num(6)), impl.Ans{}},
		{actSetField(0, 1, num(7)), impl.Ans{}},
		{actField(1, 1), val(num(7))},
		{actSetField(1, 1, nothing), impl.Ans{}},
		{actField(0, 1), impl.Ans{}},
	})
	wantPlain(t, "the first table", ideal.Tables[0], 4, pair(text("x"), num(4), 1), pair(text(longKey), num(3), 3), pair(text(""), num(5), 4))
	wantPlain(t, "the other one", ideal.Tables[1], 2, pair(num(1), num(6), 1))
}

// An act that would meet two codes answers the one that is looked for first; with a code nothing changes.
func TestIdeallyCodes(t *testing.T) {
	wrong := impl.Value{Kind: 9}
	steps := []step{
		{impl.Act{}, coded(impl.NotAct)},
		{impl.Act{Op: -1}, coded(impl.NotAct)},
		{impl.Act{Op: impl.ANew, T: 1}, coded(impl.NotAct)},
		{actPut(0, text("x"), num(1)), coded(impl.NoTable)},
		{actGet(0, text("x")), coded(impl.NoTable)},
		{actAfter(0, 0), coded(impl.NoTable)},
		{actLen(0), coded(impl.NoTable)},
		{actCount(0), coded(impl.NoTable)},
		{actField(0, 0), coded(impl.NoTable)},
		{actSetField(0, 0, num(1)), coded(impl.NoTable)},
		{actNew(), numbered(0)},
		{actField(0, 0), coded(impl.NoSite)},
		{actSetField(0, 0, num(1)), coded(impl.NoSite)},
		{actField(0, 1), coded(impl.NoTable)},
		{actField(50, 1), coded(impl.NotAct)},
		{actSite("x"), numbered(0)},
		{actField(1, 0), coded(impl.NoSite)},
		{actField(49, 99), coded(impl.NoTable)},
		{actPut(0, nothing, num(1)), coded(impl.BadKey)},
		{actPut(0, nothing, nothing), coded(impl.BadKey)},
		{actPut(0, float(math.NaN()), num(1)), coded(impl.BadKey)},
		{actGet(0, nothing), coded(impl.BadKey)},
		{actGet(0, float(math.NaN())), coded(impl.BadKey)},
		{actGet(1, nothing), coded(impl.NoTable)},
		{actPut(0, wrong, num(1)), coded(impl.NotAct)},
		{actPut(0, nothing, wrong), coded(impl.NotAct)},
		{actPut(0, text(tooLongKey), num(1)), coded(impl.NotAct)},
		{actSite(tooLongKey), coded(impl.NotAct)},
		{impl.Act{Op: impl.ASite, K: num(1)}, coded(impl.NotAct)},
		{impl.Act{Op: impl.ASite}, coded(impl.NotAct)},
		{actAfter(0, -1), coded(impl.NotAct)},
		{actAfter(0, mostTurns+1), coded(impl.NotAct)},
		{actPut(100, text("x"), num(1)), coded(impl.NotAct)},
		{actSetField(0, 0, truth(2)), coded(impl.NotAct)},
		{actCount(0), numbered(0)},
		{actNew(), numbered(1)},
		{actSite("y"), numbered(1)},
	}
	_, ideal := wantSteps(t, "codes", steps)
	if len(ideal.Tables) != 2 {
		t.Fatalf("%d tables", len(ideal.Tables))
	}
	wantPlain(t, "codes", ideal.Tables[0], 0)
	wantPlain(t, "codes", ideal.Tables[1], 0)
}

func TestIdeallyAtTheMostTables(t *testing.T) {
	var steps []step
	for n := range 100 {
		steps = append(steps, step{actNew(), numbered(n)})
	}
	steps = append(steps, step{actNew(), coded(impl.TooMany)}, step{actPut(99, text("x"), num(1)), impl.Ans{}}, step{actNew(), coded(impl.TooMany)},
		step{actCount(99), numbered(1)}, step{actCount(98), numbered(0)}, step{actSite("x"), numbered(0)}, step{actField(0, 99), val(num(1))})
	_, ideal := wantSteps(t, "tables", steps)
	if len(ideal.Tables) != 100 {
		t.Fatalf("%d tables", len(ideal.Tables))
	}
	wantPlain(t, "the last table", ideal.Tables[99], 1, pair(text("x"), num(1), 1))
}

func TestIdeallyAtTheMostSites(t *testing.T) {
	steps := []step{{actNew(), numbered(0)}}
	for n := range 50 {
		steps = append(steps, step{actSite(fmt.Sprint("s", n)), numbered(n)})
	}
	steps = append(steps, step{actSite("s"), coded(impl.TooMany)}, step{actSetField(49, 0, num(1)), impl.Ans{}}, step{actSite("s0"), coded(impl.TooMany)},
		step{actField(49, 0), val(num(1))}, step{actField(0, 0), impl.Ans{}}, step{actNew(), numbered(1)})
	_, ideal := wantSteps(t, "sites", steps)
	wantPlain(t, "50 sites", ideal.Tables[0], 1, pair(text("s49"), num(1), 1))
}

// What is written is answered as it came.
func TestValuesOfScriptsAsTheyCame(t *testing.T) {
	for _, v := range validValues()[2:] {
		for _, k := range []impl.Value{text("x"), num(1), num(7), float(0.5)} {
			_, ideal := wantSteps(t, "as it came", []step{
				{actNew(), numbered(0)}, {actPut(0, k, v), impl.Ans{}}, {actGet(0, k), val(v)}, {actAfter(0, 0), impl.Ans{Num: 1, Key: k, Val: v}},
			})
			wantPlain(t, "as it came", ideal.Tables[0], 1, pair(k, v, 1))
		}
	}
}
