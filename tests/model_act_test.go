package tests

import (
	"slices"
	"strings"

	"loop.example/shuttle/impl"
)

// A second reading of chapter 4, on the bare lists of a store, that shares no code with the program.

// The fields that an Op names, by their letters: T, S for Site, N, K and V.
var actNames = [10]string{1: "", 2: "TKV", 3: "TK", 4: "TN", 5: "T", 6: "T", 7: "K", 8: "ST", 9: "STV"}

func modelActOk(a impl.Act) bool {
	if a.Op < 1 || a.Op > 9 {
		return false
	}
	for _, f := range []struct {
		letter string
		isZero bool
		fits   bool
	}{
		{"T", a.T == 0, a.T >= 0 && a.T <= 99},
		{"S", a.Site == 0, a.Site >= 0 && a.Site <= 49},
		{"N", a.N == 0, a.N >= 0 && a.N <= mostTurns},
		{"K", modelNil(a.K), modelValid(a.K) && (a.Op != 7 || a.K.Kind == impl.KStr)},
		{"V", modelNil(a.V), modelValid(a.V)},
	} {
		if strings.Contains(actNames[a.Op], f.letter) && !f.fits || !strings.Contains(actNames[a.Op], f.letter) && !f.isZero {
			return false
		}
	}
	return true
}

func modelNil(v impl.Value) bool {
	return v.Kind == 0 && modelValid(v)
}

// modelCode has the codes that are looked for ahead of TooMany.
func modelCode(s impl.Store, a impl.Act) int {
	if !modelActOk(a) {
		return 1
	}
	if strings.Contains(actNames[a.Op], "T") && a.T > len(s.Tables)-1 {
		return 2
	}
	if strings.Contains(actNames[a.Op], "S") && a.Site > len(s.Sites)-1 {
		return 3
	}
	if _, code := modelKey(a.K); code != 0 && (a.Op == 2 || a.Op == 3) {
		return 4
	}
	return 0
}

func modelDo(s impl.Store, a impl.Act) impl.Done {
	if modelStoreOk(s) != 0 {
		return impl.Done{}
	}
	next := copyOfStore(s)
	if code := modelCode(s, a); code != 0 {
		return impl.Done{Store: next, Ans: impl.Ans{Code: code}}
	}
	ans := impl.Ans{}
	key, _ := modelKey(a.K)
	switch a.Op {
	case 1:
		if ans.Num = len(s.Tables); ans.Num == 100 {
			ans = impl.Ans{Code: 5}
		} else {
			next.Tables = append(next.Tables, impl.Table{})
		}
	case 2:
		ans.Code = modelWrite(&next, a.T, key, a.V)
	case 3:
		ans.Val = modelRead(s, a.T, key)
	case 4:
		for _, p := range slices.Backward(modelPairsOf(s, a.T)) {
			if p.Turn > a.N {
				ans = impl.Ans{Num: p.Turn, Key: p.Key, Val: p.Val}
			}
		}
	case 5:
		for modelRead(s, a.T, num(int64(ans.Num+1))).Kind != 0 {
			ans.Num++
		}
	case 6:
		ans.Num = len(modelPairsOf(s, a.T))
	case 7:
		if ans.Num = len(s.Sites); ans.Num == 50 {
			ans = impl.Ans{Code: 5}
		} else {
			next.Sites = append(next.Sites, impl.Site{Key: a.K.Str, Shape: -1})
		}
	case 8:
		modelFind(&next, a.Site, a.T)
		ans.Val = modelRead(s, a.T, text(s.Sites[a.Site].Key))
	case 9:
		// Where the field was found is also where APut finds it.
		modelFind(&next, a.Site, a.T)
		ans.Code = modelWrite(&next, a.T, text(s.Sites[a.Site].Key), a.V)
	}
	return impl.Done{Store: next, Ans: ans}
}

func modelRead(s impl.Store, t int, key impl.Value) impl.Value {
	for _, p := range modelPairsOf(s, t) {
		if modelSame(p.Key, key) {
			return p.Val
		}
	}
	return nothing
}

func modelFind(s *impl.Store, at, t int) {
	x, shape := &s.Sites[at], s.Tables[t].Shape
	if shape != -1 && shape == x.Shape {
		x.Hits = min(x.Hits+1, mostTurns)
		return
	}
	x.Misses = min(x.Misses+1, mostTurns)
	if shape == -1 {
		return
	}
	if place := slices.Index(modelRow(s.Forest, shape), x.Key); place != -1 {
		x.Shape, x.Place = shape, place
	}
}

// modelWrite answers the code.
func modelWrite(s *impl.Store, t int, key, v impl.Value) int {
	table, pairs := &s.Tables[t], modelPairsOf(*s, t)
	place := slices.IndexFunc(pairs, func(p impl.Pair) bool { return modelSame(p.Key, key) })
	isNew := place == -1
	if isNew && v.Kind == 0 {
		return 0
	}
	if table.Shape == -1 {
		if isNew && (len(pairs) == 500 || table.Dict.Turns == mostTurns) {
			return 5
		}
		table.Dict = modelPut(table.Dict, key, v)
		return 0
	}
	if key.Kind == impl.KStr && v.Kind != 0 {
		if !isNew {
			table.Vals[place] = v
			return 0
		}
		if g := modelGrow(s.Forest, table.Shape, key.Str); g.Shape != -1 {
			s.Forest, table.Shape, table.Vals = g.Forest, g.Shape, append(table.Vals, v)
			return 0
		}
	}
	d := impl.Dict{}
	for _, p := range pairs {
		d = modelPut(d, p.Key, p.Val)
	}
	*table = impl.Table{Shape: -1, Dict: modelPut(d, key, v)}
	return 0
}
