package tests

import (
	"fmt"
	"math"
	"slices"
	"strings"
	"testing"

	"loop.example/shuttle/impl"
)

// P1 of chapter 4: ActOk answers as the chapter says at every argument.

func wantActOk(t *testing.T, a impl.Act, want bool) {
	t.Helper()
	if got := impl.ActOk(a); got != want {
		t.Errorf("%s: %v, want %v", showAct(a), got, want)
	}
	if model := modelActOk(a); model != want {
		t.Errorf("%s: the second reading has %v, want %v", showAct(a), model, want)
	}
}

func showAct(a impl.Act) string {
	return fmt.Sprintf("op %d T %d site %d N %d K %.60s V %.60s", a.Op, a.T, a.Site, a.N, showValue(a.K), showValue(a.V))
}

// plainAct is right for its Op, with all that it names at 0, nil or the empty string.
func plainAct(op int) impl.Act {
	a := impl.Act{Op: op}
	if op == impl.ASite {
		a.K = text("")
	}
	return a
}

func validValues() []impl.Value {
	return []impl.Value{
		nothing, {Flt: negZero}, truth(0), truth(1), num(0), num(math.MinInt64), num(math.MaxInt64), float(0), float(negZero), float(0.5),
		float(math.NaN()), float(math.Inf(1)), text(""), text("x"), text(longKey), thing(impl.KTable, 0), thing(impl.KFn, 100),
		thing(impl.KTask, math.MaxInt), builtin(0), builtin(14), {Kind: impl.KStr, Str: "x", Flt: negZero},
	}
}

func wrongValues() []impl.Value {
	return []impl.Value{
		{Num: 1}, {Num: -1}, {Flt: 1}, {Flt: math.NaN()}, {Str: "x"}, {Ref: 1}, {Ref: -1}, truth(2), truth(-1), builtin(-1), builtin(15),
		text(tooLongKey), thing(impl.KTable, -1), thing(impl.KFn, -1), thing(impl.KTask, -1), {Kind: 9}, {Kind: -1},
		{Kind: math.MaxInt}, {Kind: math.MinInt}, {Kind: impl.KInt, Num: 1, Ref: 1}, {Kind: impl.KInt, Str: "x"},
		{Kind: impl.KStr, Num: 1}, {Kind: impl.KStr, Str: "x", Flt: math.NaN()}, {Kind: impl.KFlt, Num: 1},
	}
}

func TestActOkOps(t *testing.T) {
	for op := -3; op <= 14; op++ {
		wantActOk(t, plainAct(op), op >= 1 && op <= 9)
	}
	for _, op := range []int{math.MinInt, -1 << 32, 1<<32 + 1, 1<<8 + 1, math.MaxInt} {
		wantActOk(t, impl.Act{Op: op}, false)
	}
	if impl.ANew != 1 || impl.ASetField != 9 {
		t.Error("the numbers of the Ops are others")
	}
}

// Each number at its edges, where the Op names it and where it does not.
func TestActOkNumbers(t *testing.T) {
	for _, f := range []struct {
		letter string
		most   int
		at     func(a *impl.Act) *int
	}{
		{"T", 99, func(a *impl.Act) *int { return &a.T }},
		{"S", 49, func(a *impl.Act) *int { return &a.Site }},
		{"N", 1000000000000, func(a *impl.Act) *int { return &a.N }},
	} {
		for op := 1; op <= 9; op++ {
			isNamed := strings.Contains(actNames[op], f.letter)
			for _, n := range []int{math.MinInt, -1 << 32, -2, -1, 0, 1, 49, 50, 99, 100, f.most - 1, f.most, f.most + 1, f.most + 2, 1 << 32, math.MaxInt} {
				a := plainAct(op)
				*f.at(&a) = n
				wantActOk(t, a, n == 0 || isNamed && n > 0 && n <= f.most)
			}
		}
	}
}

func TestActOkValues(t *testing.T) {
	for op := 1; op <= 9; op++ {
		hasK, hasV := strings.Contains(actNames[op], "K"), strings.Contains(actNames[op], "V")
		for i, v := range append(validValues(), wrongValues()...) {
			isValid, isNil := i < len(validValues()), i < 2
			a := plainAct(op)
			a.V = v
			wantActOk(t, a, isNil || isValid && hasV)
			a = plainAct(op)
			a.K = v
			if op == impl.ASite {
				wantActOk(t, a, isValid && v.Kind == impl.KStr)
			} else {
				wantActOk(t, a, isNil || isValid && hasK)
			}
		}
	}
}

// All that an Op names at its upper edge at once, and then one thing that it does not name.
func TestActOkAllNamed(t *testing.T) {
	edge := impl.Act{T: 99, Site: 49, N: 1000000000000, K: text(longKey), V: text(longKey)}
	for op, names := range actNames {
		if op == 0 {
			continue
		}
		a := plainAct(op)
		for _, letter := range names {
			setNamed(&a, edge, letter)
		}
		wantActOk(t, a, true)
		for _, letter := range "TSNKV" {
			if strings.ContainsRune(names, letter) {
				continue
			}
			b := a
			setNamed(&b, edge, letter)
			wantActOk(t, b, false)
		}
	}
}

func setNamed(a *impl.Act, from impl.Act, letter rune) {
	switch letter {
	case 'T':
		a.T = from.T
	case 'S':
		a.Site = from.Site
	case 'N':
		a.N = from.N
	case 'K':
		a.K = from.K
	case 'V':
		a.V = from.V
	}
}

func TestActOkInLongRuns(t *testing.T) {
	r := dice(23)
	numbers := []int{0, 0, 0, 0, 0, 0, 1, 49, 50, 99, 100, mostTurns, mostTurns + 1, -1}
	values := slices.Concat(validValues(), wrongValues(), make([]impl.Value, 60), slices.Repeat([]impl.Value{text("y")}, 30))
	met := map[string]int{}
	for range 100000 {
		a := impl.Act{Op: r.below(11), T: numbers[r.below(len(numbers))], Site: numbers[r.below(len(numbers))], N: numbers[r.below(len(numbers))]}
		a.K, a.V = values[r.below(len(values))], values[r.below(len(values))]
		want := modelActOk(a)
		if got := impl.ActOk(a); got != want {
			t.Fatalf("%s: %v, want %v", showAct(a), got, want)
		}
		met[fmt.Sprint(a.Op, want)]++
	}
	for op := 1; op <= 9; op++ {
		if met[fmt.Sprint(op, true)] < 50 || met[fmt.Sprint(op, false)] < 50 {
			t.Errorf("op %d was met too seldom: %v", op, met)
		}
	}
}
