package tests

import (
	"fmt"
	"math"
	"slices"
	"testing"

	"loop.example/shuttle/impl"
)

// Play as chapter 5 says: how many acts it takes, an answer for each of them, and the store that Do makes act by act.

func TestPlayOfNoActs(t *testing.T) {
	for what, acts := range map[string][]impl.Act{"nil": nil, "an empty list": {}, "a list with room": make([]impl.Act, 0, 2000)} {
		played, ideal := wantScript(t, what, acts)
		if len(ideal.Tables) != 0 || showStore(played.Store) != showStore(impl.Empty()) {
			t.Errorf("%s: %s, %d plain tables", what, showStore(played.Store), len(ideal.Tables))
		}
	}
}

// oftenActs is n acts, of which each leaves something to be seen behind it.
func oftenActs(n int) []impl.Act {
	acts := []impl.Act{actNew(), actSite("x")}
	for i := len(acts); i < n; i++ {
		acts = append(acts, []impl.Act{actPut(0, num(int64(i)), num(1)), actSetField(0, 0, num(int64(i))), actField(0, 0)}[i%3])
	}
	return acts[:n]
}

func TestMaxActs(t *testing.T) {
	if impl.MaxActs != 1000 {
		t.Errorf("MaxActs is %d", impl.MaxActs)
	}
	for _, n := range []int{1, 2, 3, 998, 999, 1000} {
		what := fmt.Sprint(n, " acts")
		wantScript(t, what, oftenActs(n))
		wantScript(t, what+" that are none", make([]impl.Act, n))
		wantByDo(t, what, oftenActs(n))
	}
	roomy := append(make([]impl.Act, 0, 5000), oftenActs(1000)...)
	wantScript(t, "1000 acts in a list with room", roomy)
	last := impl.Play(oftenActs(1000)).Store
	if count := impl.Do(last, actCount(0)).Ans.Num; count < 300 || showStore(last) == showStore(impl.Play(oftenActs(999)).Store) {
		t.Errorf("%d pairs behind 1000 acts", count)
	}
	for _, n := range []int{1001, 1002, 2000, 100000} {
		for what, acts := range map[string][]impl.Act{"acts": oftenActs(n), "that are none": make([]impl.Act, n), "new tables": slices.Repeat([]impl.Act{actNew()}, n)} {
			if got, want := showPlayed(impl.Play(acts)), showPlayed(impl.Played{}); got != want {
				t.Errorf("%d %s: Play has\n%.300s", n, what, got)
			}
			if got, want := showIdeal(impl.Ideally(acts)), showIdeal(impl.Ideal{}); got != want {
				t.Errorf("%d %s: Ideally has\n%.300s", n, what, got)
			}
		}
	}
}

func TestPlayAnswersEveryAct(t *testing.T) {
	played, _ := wantSteps(t, "every Op and code", []step{
		{impl.Act{}, coded(impl.NotAct)},
		{actGet(0, num(1)), coded(impl.NoTable)},
		{actNew(), numbered(0)},
		{actField(0, 0), coded(impl.NoSite)},
		{actSite("y"), numbered(0)},
		{actNew(), numbered(1)},
		{actPut(0, nothing, num(1)), coded(impl.BadKey)},
		{actPut(0, text("x"), num(7)), impl.Ans{}},
		{actSetField(0, 0, num(8)), impl.Ans{}},
		{actField(0, 0), val(num(8))},
		{actField(0, 0), val(num(8))},
		{actAfter(0, 1), impl.Ans{Num: 2, Key: text("y"), Val: num(8)}},
		{actAfter(0, 2), impl.Ans{}},
		{actCount(0), numbered(2)},
		{actLen(0), numbered(0)},
		{actPut(2, text("x"), num(7)), coded(impl.NoTable)},
		{actPut(0, num(1), truth(1)), impl.Ans{}},
		{actLen(0), numbered(1)},
		{actField(0, 0), val(num(8))},
		{actField(1, 0), coded(impl.NoSite)},
		{actGet(0, float(math.NaN())), coded(impl.BadKey)},
		{actGet(0, float(1)), val(truth(1))},
		{impl.Act{Op: 10}, coded(impl.NotAct)},
	})
	want := impl.Store{Forest: chain("x", "y"), Sites: []impl.Site{counted(site("y", 2, 1), 1, 3)}}
	want.Tables = []impl.Table{dictTable(modelPut(lost([]string{"x", "y"}, []impl.Value{num(7), num(8)}), num(1), truth(1))), record(0)}
	if showStore(played.Store) != showStore(want) {
		t.Errorf("the store behind it: got\n%s\nwant\n%s", showStore(played.Store), showStore(want))
	}
}

func TestPlayOfWrongActsAlone(t *testing.T) {
	r := dice(3)
	var acts []impl.Act
	for range 400 {
		acts = append(acts, wrongAct(&r, r.below(3), text("x"), num(1)))
	}
	for _, v := range wrongValues() {
		acts = append(acts, actPut(0, v, num(1)), actPut(0, num(1), v), actGet(0, v), actSetField(0, 0, v), impl.Act{Op: impl.ASite, K: v})
	}
	played, _ := wantScript(t, "wrong acts", acts)
	if slices.ContainsFunc(played.Ans, func(a impl.Ans) bool { return a.Code == 0 }) {
		t.Error("one of them has no code")
	}
	if showStore(played.Store) != showStore(impl.Empty()) {
		t.Errorf("the store behind them is %s", showStore(played.Store))
	}
}

// Each beginning of a script is a script too, and the store behind it is the one that Do has there.
func TestPlayOfEveryBeginning(t *testing.T) {
	r := dice(71)
	for script := range 4 {
		acts := chanceScript(&r, 250)
		s := impl.Empty()
		for n := range acts {
			if got := impl.Play(acts[:n]); showStore(got.Store) != showStore(s) || len(got.Ans) != n {
				t.Fatalf("script %d: behind %d acts got\n%s\nwant\n%s", script, n, showStore(got.Store), showStore(s))
			}
			done := impl.Do(s, acts[n])
			if got := impl.Play(acts[:n+1]).Ans[n]; showAns(got) != showAns(done.Ans) {
				t.Fatalf("script %d: act %d, %s: got %s, want %s", script, n, showAct(acts[n]), showAns(got), showAns(done.Ans))
			}
			s = done.Store
		}
	}
}

func TestPlayIsDoAfterDo(t *testing.T) {
	r := dice(73)
	for i := range 6 {
		wantByDo(t, "by chance", chanceScript(&r, 1000))
		wantByDo(t, "records", recordActs(&r, 1000))
		wantByDo(t, "a crowd", crowdActs(&r, 600, 15*i))
	}
	wantByDo(t, "all tables and sites", wholeHouse())
}
