package tests

import (
	"fmt"
	"maps"
	"slices"
	"strings"
	"testing"

	"loop.example/shuttle/impl"
)

// A second reading of chapter 5 that shares no code with the program, and what holds a script against it.

// modelPlain is a plain table whose pairs stand at their turns.
type modelPlain struct {
	come  map[int]impl.Pair
	turns int
}

func (m modelPlain) pairs() []impl.Pair {
	var pairs []impl.Pair
	for _, turn := range slices.Sorted(maps.Keys(m.come)) {
		pairs = append(pairs, m.come[turn])
	}
	return pairs
}

// turnOf answers 0 for a key that is not there.
func (m modelPlain) turnOf(key impl.Value) int {
	for turn, p := range m.come {
		if modelSame(p.Key, key) {
			return turn
		}
	}
	return 0
}

// write answers the code.
func (m *modelPlain) write(key, v impl.Value) int {
	turn := m.turnOf(key)
	if v.Kind == 0 {
		delete(m.come, turn)
		return 0
	}
	if turn != 0 {
		m.come[turn] = pair(m.come[turn].Key, v, turn)
		return 0
	}
	if len(m.come) > 499 || m.turns > mostTurns-1 {
		return 5
	}
	m.turns++
	m.come[m.turns] = pair(key, v, m.turns)
	return 0
}

type modelDesk struct {
	tables []*modelPlain
	sites  []string
}

func (m *modelDesk) do(a impl.Act) impl.Ans {
	counts := impl.Store{Tables: make([]impl.Table, len(m.tables)), Sites: make([]impl.Site, len(m.sites))}
	if code := modelCode(counts, a); code != 0 {
		return coded(code)
	}
	switch {
	case a.Op == 1 && len(m.tables) == 100, a.Op == 7 && len(m.sites) == 50:
		return coded(5)
	case a.Op == 1:
		m.tables = append(m.tables, &modelPlain{come: map[int]impl.Pair{}})
		return numbered(len(m.tables) - 1)
	case a.Op == 7:
		m.sites = append(m.sites, a.K.Str)
		return numbered(len(m.sites) - 1)
	}
	key, _ := modelKey(a.K)
	if a.Op > 7 {
		key = text(m.sites[a.Site])
	}
	return m.tables[a.T].do(a, key)
}

func (m *modelPlain) do(a impl.Act, key impl.Value) impl.Ans {
	switch a.Op {
	case 2, 9:
		return coded(m.write(key, a.V))
	case 3, 8:
		return val(m.come[m.turnOf(key)].Val)
	case 4:
		rest := slices.DeleteFunc(m.pairs(), func(p impl.Pair) bool { return p.Turn <= a.N })
		if len(rest) > 0 {
			return impl.Ans{Num: rest[0].Turn, Key: rest[0].Key, Val: rest[0].Val}
		}
		return impl.Ans{}
	case 5:
		n := 1
		for m.turnOf(num(int64(n))) > 0 {
			n++
		}
		return numbered(n - 1)
	}
	return numbered(len(m.come))
}

func modelIdeally(acts []impl.Act) impl.Ideal {
	if len(acts) > 1000 {
		return impl.Ideal{}
	}
	m, ideal := modelDesk{}, impl.Ideal{Ok: true}
	for _, a := range acts {
		ideal.Ans = append(ideal.Ans, m.do(a))
	}
	for _, table := range m.tables {
		ideal.Tables = append(ideal.Tables, impl.Plain{Pairs: table.pairs(), Turns: table.turns})
	}
	return ideal
}

// byDo is the script done by one Do after the other.
func byDo(acts []impl.Act) impl.Played {
	played := impl.Played{Ok: true, Store: impl.Empty()}
	for _, a := range acts {
		done := impl.Do(played.Store, a)
		played.Ans, played.Store = append(played.Ans, done.Ans), done.Store
	}
	return played
}

func showAns(a impl.Ans) string {
	return fmt.Sprintf("code %d num %d key %s val %s", a.Code, a.Num, showValue(a.Key), showValue(a.Val))
}

func showAnswers(list []impl.Ans) string {
	var b strings.Builder
	for i, a := range list {
		fmt.Fprintf(&b, "%d: %s\n", i, showAns(a))
	}
	return b.String()
}

func showPlayed(p impl.Played) string {
	return fmt.Sprintf("%v\n%s%s", p.Ok, showAnswers(p.Ans), showStore(p.Store))
}

func showIdeal(d impl.Ideal) string {
	var b strings.Builder
	fmt.Fprintf(&b, "%v\n%s", d.Ok, showAnswers(d.Ans))
	for i, table := range d.Tables {
		fmt.Fprintf(&b, "table %d: turns %d\n%s", i, table.Turns, showPairs(table.Pairs))
	}
	return b.String()
}

// turnsOf is how many keys have come into a table of a store.
func turnsOf(table impl.Table) int {
	if table.Shape >= 0 {
		return len(table.Vals)
	}
	return table.Dict.Turns
}

// byModel is the script done by the second reading of Do.
func byModel(acts []impl.Act) impl.Played {
	played := impl.Played{Ok: true, Store: impl.Empty()}
	for _, a := range acts {
		done := modelDo(played.Store, a)
		played.Ans, played.Store = append(played.Ans, done.Ans), done.Store
	}
	return played
}

// keySeen is the key of a plain list as a table has it: as it came or, from a shape, the string alone.
func keySeen(plain, key impl.Value) impl.Value {
	if plain.Kind == impl.KStr && showValue(key) == showValue(text(plain.Str)) {
		return key
	}
	return plain
}

func ansSeen(plain, ans impl.Ans) impl.Ans {
	plain.Key = keySeen(plain.Key, ans.Key)
	return plain
}

func pairsSeen(plain, pairs []impl.Pair) []impl.Pair {
	plain = slices.Clone(plain)
	for i := range min(len(plain), len(pairs)) {
		plain[i].Key = keySeen(plain[i].Key, pairs[i].Key)
	}
	return plain
}

// wantScript is P9 for one script, and holds Ideally against the second reading.
func wantScript(t *testing.T, what string, acts []impl.Act) (impl.Played, impl.Ideal) {
	t.Helper()
	played, ideal := impl.Play(acts), impl.Ideally(acts)
	if !played.Ok || !ideal.Ok || len(played.Ans) != len(acts) || len(ideal.Ans) != len(acts) {
		t.Fatalf("%s: %d acts: ok %v and %v, %d and %d answers", what, len(acts), played.Ok, ideal.Ok, len(played.Ans), len(ideal.Ans))
	}
	for i, a := range acts {
		if p, d := showAns(played.Ans[i]), showAns(ansSeen(ideal.Ans[i], played.Ans[i])); p != d {
			t.Fatalf("%s: act %d, %s: Play has %.300s, Ideally %.300s", what, i, showAct(a), p, d)
		}
	}
	if len(played.Store.Tables) != len(ideal.Tables) {
		t.Fatalf("%s: %d tables, %d plain ones", what, len(played.Store.Tables), len(ideal.Tables))
	}
	for i, plain := range ideal.Tables {
		pairs := impl.PairsOf(played.Store, i)
		if p, d := showPairs(pairs), showPairs(pairsSeen(plain.Pairs, pairs)); p != d {
			t.Fatalf("%s: the pairs of table %d: Play has\n%.2000s\nIdeally\n%.2000s", what, i, p, d)
		}
		if turns := turnsOf(played.Store.Tables[i]); turns != plain.Turns {
			t.Fatalf("%s: %d turns of table %d, %d of the plain one", what, turns, i, plain.Turns)
		}
	}
	if got, want := showIdeal(ideal), showIdeal(modelIdeally(acts)); got != want {
		t.Fatalf("%s: Ideally has\n%.3000s\nthe second reading\n%.3000s", what, got, want)
	}
	if rule := impl.StoreOk(played.Store); rule != 0 {
		t.Fatalf("%s: the store behind it fails rule %d", what, rule)
	}
	return played, ideal
}

// wantByDo wants Play to answer what one Do after the other does.
func wantByDo(t *testing.T, what string, acts []impl.Act) {
	t.Helper()
	if got, want := showPlayed(impl.Play(acts)), showPlayed(byDo(acts)); got != want {
		t.Fatalf("%s: Play has\n%.3000s\nDo after Do\n%.3000s", what, got, want)
	}
}

// wantByModel wants Play to answer what the second reading of Do does, each key with the sign beside it.
func wantByModel(t *testing.T, what string, acts []impl.Act) {
	t.Helper()
	if got, want := showPlayed(impl.Play(acts)), showPlayed(byModel(acts)); got != want {
		t.Fatalf("%s: Play has\n%.3000s\nthe second reading of Do\n%.3000s", what, got, want)
	}
}

// step is an act and what it is to answer.
type step struct {
	a    impl.Act
	want impl.Ans
}

func wantSteps(t *testing.T, what string, steps []step) (impl.Played, impl.Ideal) {
	t.Helper()
	var acts []impl.Act
	for _, s := range steps {
		acts = append(acts, s.a)
	}
	played, ideal := wantScript(t, what, acts)
	for i, s := range steps {
		if got, want := showAns(ideal.Ans[i]), showAns(s.want); got != want {
			t.Errorf("%s: act %d, %s: got %.300s, want %.300s", what, i, showAct(s.a), got, want)
		}
	}
	wantByDo(t, what, acts)
	return played, ideal
}

func wantPlain(t *testing.T, what string, got impl.Plain, turns int, pairs ...impl.Pair) {
	t.Helper()
	if got.Turns != turns || showPairs(got.Pairs) != showPairs(pairs) {
		t.Errorf("%s: %d turns, want %d, and the pairs\n%.2000s\nwant\n%.2000s", what, got.Turns, turns, showPairs(got.Pairs), showPairs(pairs))
	}
}
