package tests

import (
	"fmt"
	"math"
	"slices"
	"strings"
	"testing"

	"loop.example/shuttle/impl"
)

// P11, of scripts and of every function of the document: nothing is written into an argument, every answer is new memory, and the same argument has the same answer.

func showActs(acts []impl.Act) string {
	var b strings.Builder
	for _, a := range acts {
		fmt.Fprintf(&b, "%d %d %d %d %s %s\n", a.Op, a.T, a.Site, a.N, showValue(a.K), showValue(a.V))
	}
	return b.String()
}

func scribbleActs(acts []impl.Act) {
	for i := range acts[:cap(acts)] {
		acts[:cap(acts)][i] = actPut(7, text("scribble"), text("scribble"))
	}
}

func scribbleAnswers(list []impl.Ans) {
	for i := range list[:cap(list)] {
		list[:cap(list)][i] = impl.Ans{Code: -7, Num: -7, Key: text("scribble"), Val: text("scribble")}
	}
}

func scribblePlains(tables []impl.Plain) {
	tables = tables[:cap(tables)]
	for i := range tables {
		scribblePairs(tables[i].Pairs)
		tables[i] = impl.Plain{Turns: -7}
	}
}

func spansOfIdeal(name string, d impl.Ideal) []span {
	spans := []span{spanOf(name+" answers", d.Ans), spanOf(name+" plain tables", d.Tables)}
	for i, table := range d.Tables {
		spans = append(spans, spanOf(fmt.Sprint(name, " plain table ", i), table.Pairs))
	}
	return spans
}

func spansOfPlayed(name string, p impl.Played) []span {
	return append(spansOf(name, p.Store), spanOf(name+" answers", p.Ans))
}

// scriptsOfAllKinds has scripts behind which tables of both kinds, sites and shapes are left, and such that leave nothing.
func scriptsOfAllKinds() map[string][]impl.Act {
	r := dice(83)
	return map[string][]impl.Act{
		"no acts":       {},
		"wrong acts":    make([]impl.Act, 20),
		"too many acts": make([]impl.Act, 1001),
		"records":       append(recordsOf(20, names(5)...), recordActs(&r, 400)...),
		"a crowd":       crowdActs(&r, 700, 20),
		"by chance":     chanceScript(&r, 800),
		"many tables":   wholeHouse(),
	}
}

func TestScriptsShareNothing(t *testing.T) {
	for what, script := range scriptsOfAllKinds() {
		acts := slices.Grow(slices.Clone(script), 50)
		before := showActs(acts[:cap(acts)])
		played, ideal := impl.Play(acts), impl.Ideally(acts)
		again, ideally := impl.Play(acts), impl.Ideally(acts)
		if showActs(acts[:cap(acts)]) != before {
			t.Errorf("%s: something was written into the acts or behind them", what)
		}
		wantApart(t, what, slices.Concat([]span{spanOf("acts", acts)}, spansOfPlayed("first", played), spansOfPlayed("second", again), spansOfIdeal("first", ideal), spansOfIdeal("second", ideally)))
		wantP, wantD := showPlayed(played), showIdeal(ideal)
		if showPlayed(again) != wantP || showIdeal(ideally) != wantD {
			t.Errorf("%s: another answer the second time", what)
		}
		scribbleAnswers(played.Ans)
		scribbleStore(played.Store)
		scribbleAnswers(ideal.Ans)
		scribblePlains(ideal.Tables)
		if showActs(acts[:cap(acts)]) != before {
			t.Errorf("%s: the acts follow an answer", what)
		}
		if showPlayed(again) != wantP || showIdeal(ideally) != wantD {
			t.Errorf("%s: one answer follows another", what)
		}
		if showPlayed(impl.Play(acts)) != wantP || showIdeal(impl.Ideally(acts)) != wantD {
			t.Errorf("%s: another answer behind scribbling", what)
		}
		scribbleActs(acts)
		if showPlayed(again) != wantP || showIdeal(ideally) != wantD {
			t.Errorf("%s: an answer follows the acts", what)
		}
	}
}

// What one list of an answer grows by does not show in another one.
func TestListsOfAScriptGrowByThemselves(t *testing.T) {
	for what, acts := range scriptsOfAllKinds() {
		ideal := impl.Ideally(acts)
		want := showIdeal(ideal)
		for i := range ideal.Tables {
			scribblePairs(append(ideal.Tables[i].Pairs, pair(num(1), num(1), 1))[len(ideal.Tables[i].Pairs):])
		}
		if showIdeal(ideal) != want {
			t.Errorf("%s: plain tables share memory", what)
		}
	}
}

// call is a function of the document with its arguments: it answers what is to be seen, and the memory of the lists that it answered.
type call struct {
	name string
	run  func() (string, []span)
}

func plainCall(name string, run func() string) call {
	return call{name, func() (string, []span) { return run(), nil }}
}

func callsOfDict(d impl.Dict) []call {
	var calls []call
	for _, k := range []impl.Value{num(1), num(2), num(77), float(2), text("x"), text("new"), truth(1), nothing, float(math.NaN()), {Kind: 9}} {
		calls = append(calls, plainCall("DictGet", func() string { return showValue(impl.DictGet(d, k)) }))
		for _, v := range []impl.Value{num(9), nothing, truth(2)} {
			calls = append(calls, call{"DictPut", func() (string, []span) {
				got := impl.DictPut(d, k, v)
				return show(got), []span{spanOf("log", got.Log), spanOf("ints", got.Ints), spanOf("index", got.Index)}
			}})
		}
	}
	return append(calls,
		plainCall("DictOk", func() string { return fmt.Sprint(impl.DictOk(d)) }),
		plainCall("DictLen", func() string { return fmt.Sprint(impl.DictLen(d)) }),
		plainCall("DictAfter", func() string { f := impl.DictAfter(d, 1); return fmt.Sprint(f.Found, showPair(f.Pair)) }),
		call{"DictPairs", func() (string, []span) { p := impl.DictPairs(d); return showPairs(p), []span{spanOf("pairs", p)} }},
	)
}

func callsOfForest(f impl.Forest) []call {
	calls := []call{plainCall("ForestOk", func() string { return fmt.Sprint(impl.ForestOk(f)) })}
	for _, key := range []string{"x", "z", "new", tooLongKey} {
		for _, shape := range []int{-1, 0, 2, 4, 9} {
			calls = append(calls,
				plainCall("FieldAt", func() string { return fmt.Sprint(impl.FieldAt(f, shape, key)) }),
				call{"Fields", func() (string, []span) {
					row := impl.Fields(f, shape)
					return fmt.Sprintf("%q", row), []span{spanOf("fields", row)}
				}},
				call{"Grow", func() (string, []span) {
					g := impl.Grow(f, shape, key)
					return fmt.Sprintf("%d %s", g.Shape, showStore(impl.Store{Forest: g.Forest})), []span{spanOf("shapes", g.Forest.Shapes)}
				}})
		}
	}
	return calls
}

func callsOfStore(s impl.Store) []call {
	calls := []call{plainCall("StoreOk", func() string { return fmt.Sprint(impl.StoreOk(s)) })}
	for table := range 7 {
		calls = append(calls, call{"PairsOf", func() (string, []span) { p := impl.PairsOf(s, table); return showPairs(p), []span{spanOf("pairs", p)} }})
	}
	for _, a := range actsOnSomeStore() {
		calls = append(calls, call{"Do", func() (string, []span) { done := impl.Do(s, a); return showDone(done), spansOf("answer", done.Store) }})
	}
	return calls
}

func callsOfValues() []call {
	calls := []call{{"Empty", func() (string, []span) { s := impl.Empty(); return showStore(s), spansOf("answer", s) }}}
	for _, v := range append(validValues(), wrongValues()...) {
		calls = append(calls,
			plainCall("KeyOf", func() string { k := impl.KeyOf(v); return fmt.Sprint(k.Code, showValue(k.Value)) }),
			plainCall("HashOf", func() string { return fmt.Sprint(impl.HashOf(v)) }),
			plainCall("ActOk", func() string { return fmt.Sprint(impl.ActOk(actPut(3, v, v)), impl.ActOk(actSetField(3, 4, v))) }))
	}
	return calls
}

func callsOfScripts(acts []impl.Act) []call {
	return []call{
		{"Play", func() (string, []span) { p := impl.Play(acts); return showPlayed(p), spansOfPlayed("answer", p) }},
		{"Ideally", func() (string, []span) { d := impl.Ideally(acts); return showIdeal(d), spansOfIdeal("answer", d) }},
	}
}

// Every function is called with arguments that others are called with too, in one order and back again: what is kept from call to call, or written into an argument, shows.
func TestEveryFunctionAnswersTheSame(t *testing.T) {
	sound := roomyStore(someStore())
	broken := roomyStore(spoilStore(someStore(), func(s *impl.Store) { s.Sites[0].Place = 0; s.Tables[1].Dict.Used = 7; s.Forest.Shapes[4].Count = 2 }))
	r := dice(89)
	acts := slices.Grow(append(chanceScript(&r, 150), crowdActs(&r, 150, 30)...), 30)
	arguments := func() string {
		return showStore(stretched(sound)) + showStore(stretched(broken)) + showActs(acts[:cap(acts)])
	}
	calls := slices.Concat(callsOfValues(), callsOfScripts(acts))
	spans := append(append(spansOf("argument", sound), spansOf("broken argument", broken)...), spanOf("acts", acts))
	for _, s := range []impl.Store{sound, broken} {
		calls = slices.Concat(calls, callsOfDict(s.Tables[1].Dict), callsOfForest(s.Forest), callsOfStore(s))
	}
	before := arguments()
	first := make([]string, len(calls))
	met := map[string]int{}
	for i, c := range calls {
		met[c.name]++
		answer, lists := c.run()
		first[i] = answer
		wantApart(t, c.name, append(slices.Clone(spans), lists...))
		if arguments() != before {
			t.Fatalf("%s: something was written into an argument", c.name)
		}
	}
	for i, c := range slices.Backward(calls) {
		if again, _ := c.run(); again != first[i] {
			t.Errorf("%s: got\n%.1000s\nthe second time, and\n%.1000s\nthe first time", c.name, again, first[i])
		}
	}
	if arguments() != before {
		t.Error("something was written into an argument")
	}
	wantMet(t, met, 1, "KeyOf", "HashOf", "DictOk", "DictGet", "DictPut", "DictAfter", "DictLen", "DictPairs", "ForestOk", "Fields", "FieldAt", "Grow",
		"Empty", "StoreOk", "PairsOf", "ActOk", "Do", "Play", "Ideally")
}
