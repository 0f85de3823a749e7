package tests

import (
	"slices"

	"loop.example/shuttle/impl"
)

// A second reading of chapter 3, on the bare lists of a store, that shares no code with the program.

func modelStoreOk(s impl.Store) int {
	switch {
	case modelForestOk(s.Forest) != 0:
		return 1
	case len(s.Tables) > 100 || len(s.Sites) > 50:
		return 2
	case slices.ContainsFunc(s.Tables, func(t impl.Table) bool { return !modelTableOk(s.Forest, t) }):
		return 3
	case slices.ContainsFunc(s.Sites, func(x impl.Site) bool { return !modelSiteOk(s.Forest, x) }):
		return 4
	}
	return 0
}

func modelTableOk(f impl.Forest, t impl.Table) bool {
	if t.Shape == -1 {
		return len(t.Vals) == 0 && modelOk(t.Dict) == 0
	}
	if t.Shape < 0 || t.Shape > len(f.Shapes)-1 || len(modelRow(f, t.Shape)) != len(t.Vals) {
		return false
	}
	for _, v := range t.Vals {
		if v.Kind == 0 || !modelValid(v) {
			return false
		}
	}
	entries := len(t.Dict.Log) + len(t.Dict.Ints) + len(t.Dict.Index)
	return entries == 0 && [3]int{t.Dict.Used, t.Dict.Live, t.Dict.Turns} == [3]int{}
}

func modelSiteOk(f impl.Forest, x impl.Site) bool {
	if len(x.Key) > 4000 || min(x.Hits, x.Misses) < 0 || max(x.Hits, x.Misses) > mostTurns {
		return false
	}
	if x.Shape == -1 {
		return x.Place == 0
	}
	if x.Shape < 0 || x.Shape > len(f.Shapes)-1 {
		return false
	}
	for place, key := range modelRow(f, x.Shape) {
		if place == x.Place && key == x.Key {
			return true
		}
	}
	return false
}

func modelPairsOf(s impl.Store, t int) []impl.Pair {
	if modelStoreOk(s) != 0 || t < 0 || t > len(s.Tables)-1 {
		return nil
	}
	table := s.Tables[t]
	if table.Shape == -1 {
		return slices.DeleteFunc(slices.Clone(table.Dict.Log), func(p impl.Pair) bool { return p.Turn == 0 })
	}
	var pairs []impl.Pair
	for i, key := range modelRow(s.Forest, table.Shape) {
		pairs = append(pairs, impl.Pair{Key: text(key), Val: table.Vals[i], Turn: i + 1})
	}
	return pairs
}
