package tests

import (
	"math"
	"strings"
	"testing"

	"loop.example/shuttle/impl"
)

func TestKeyOfItself(t *testing.T) {
	for _, v := range []impl.Value{
		truth(0), truth(1),
		num(0), num(-1), num(math.MaxInt64), num(math.MinInt64),
		text(""), text("a"), text("\x00\xff"), text(strings.Repeat("s", impl.MaxStr)),
		thing(impl.KTable, 0), thing(impl.KFn, 0), thing(impl.KTask, 0),
		thing(impl.KTable, math.MaxInt64), thing(impl.KFn, 7), thing(impl.KTask, 1),
		builtin(0), builtin(impl.Builtins - 1),
		float(0.5), float(-2.5), float(math.Inf(1)), float(math.Inf(-1)),
		float(math.SmallestNonzeroFloat64), float(math.MaxFloat64),
		float(1 << 63), float(-1<<63 - 2048),
		{Kind: impl.KInt, Num: 5, Flt: negZero}, {Kind: impl.KStr, Str: "a", Flt: negZero},
	} {
		if got := impl.KeyOf(v); got.Code != 0 || showValue(got.Value) != showValue(v) {
			t.Errorf("%s: %d %s", showValue(v), got.Code, showValue(got.Value))
		}
	}
}

func TestKeyOfWholeFloats(t *testing.T) {
	for f, n := range map[float64]int64{
		0: 0, 1: 1, -1: -1, 1e15: 1e15, -1 << 63: math.MinInt64,
		1<<63 - 1024: 1<<63 - 1024, 1 << 53: 1 << 53,
	} {
		if got := impl.KeyOf(float(f)); got.Code != 0 || showValue(got.Value) != showValue(num(n)) {
			t.Errorf("%v: %d %s", f, got.Code, showValue(got.Value))
		}
	}
	if got := impl.KeyOf(float(negZero)); got.Code != 0 || showValue(got.Value) != showValue(num(0)) {
		t.Errorf("-0: %d %s", got.Code, showValue(got.Value))
	}
}

func TestKeyOfRefuses(t *testing.T) {
	type row struct {
		v    impl.Value
		code int
	}
	rows := []row{
		{nothing, 1}, {impl.Value{Flt: negZero}, 1}, {float(math.NaN()), 1},
		{float(math.Float64frombits(0xfff8000000000001)), 1},
		{impl.Value{Kind: -1}, 2}, {impl.Value{Kind: 9}, 2}, {impl.Value{Kind: math.MinInt64}, 2},
		{truth(2), 2}, {truth(-1), 2},
		{text(strings.Repeat("s", impl.MaxStr+1)), 2},
		{thing(impl.KTable, -1), 2}, {thing(impl.KFn, -1), 2}, {thing(impl.KTask, math.MinInt64), 2},
		{builtin(-1), 2}, {builtin(impl.Builtins), 2},
		{impl.Value{Kind: impl.KFlt, Flt: math.NaN(), Num: 1}, 2},
		{impl.Value{Kind: impl.KFlt, Flt: 2, Ref: 1}, 2},
	}
	// Which fields each Kind uses: all the others have to be empty.
	uses := []string{"", "Num", "Num", "Flt", "Str", "Ref", "Ref", "Ref", "Num"}
	for kind, used := range uses {
		for name, fill := range map[string]impl.Value{"Num": {Num: 1}, "Flt": {Flt: 0.5}, "Str": {Str: "x"}, "Ref": {Ref: 1}} {
			if fill.Kind = kind; name != used {
				rows = append(rows, row{fill, 2})
			}
		}
		if used != "Flt" {
			rows = append(rows, row{impl.Value{Kind: kind, Flt: math.NaN()}, 2})
		}
	}
	for _, r := range rows {
		if got := impl.KeyOf(r.v); got.Code != r.code || showValue(got.Value) != showValue(nothing) {
			t.Errorf("%s: %d %s, want code %d", showValue(r.v), got.Code, showValue(got.Value), r.code)
		}
		if got := impl.HashOf(r.v); got != 0 {
			t.Errorf("%s has hash %d", showValue(r.v), got)
		}
	}
}

func TestHashOfEachKind(t *testing.T) {
	for _, r := range []struct {
		v    impl.Value
		want int64
	}{
		{num(0), 0}, {num(-1), 7256831767414464289}, {num(2), 4233148493373801447},
		{num(1 << 33), 7746464420717479363},
		{num(math.MaxInt64), -6072754518692401686}, {num(math.MinInt64), -8108722261328812909},
		{text(""), -3750763034362895579}, {text("hello"), -6615550055289275125}, {text("\xff\x00"), 763824163880569834},
		{float(1.5), 4106402155786901200}, {float(-1.5), 725074767797138705}, {float(0.5), -2090049628430959090},
		{float(1 << 63), -2081475636755872737}, {float(-1<<63 - 2048), int64(modelHash(text("-4503599627370497p11")))},
		{float(math.SmallestNonzeroFloat64), -8944116240924583143},
		{float(math.MaxFloat64), -465365970240294764}, {float(-math.MaxFloat64), -3952182012256085055},
		{float(math.Inf(1)), 3143526941665320968}, {float(math.Inf(-1)), 3608529609228909603},
		{truth(0), -1725051079500877066}, {truth(1), -8021152983310214288},
		{thing(impl.KTable, 0), 6341464071745390276}, {thing(impl.KTable, 9), 4537349260303629789},
		{thing(impl.KTable, math.MaxInt64), 6731498152519932788},
		{thing(impl.KFn, 0), 4303105689031059717}, {thing(impl.KFn, 9), 3176656861492455460},
		{thing(impl.KTask, 0), -6463514473121798233}, {thing(impl.KTask, 9), 3837186927058722093},
		{builtin(0), -6750989348276001068}, {builtin(14), 6728333965044294167},
	} {
		if got := impl.HashOf(r.v); got != r.want {
			t.Errorf("%s: %d, want %d", showValue(r.v), got, r.want)
		}
	}
}

func TestSameKeysHaveOneHash(t *testing.T) {
	for _, r := range [][2]impl.Value{
		{float(2), num(2)}, {float(negZero), num(0)}, {float(-1 << 63), num(math.MinInt64)},
		{{Kind: impl.KInt, Num: 7, Flt: negZero}, num(7)},
		{{Kind: impl.KStr, Str: "a", Flt: negZero}, text("a")},
		{{Kind: impl.KTable, Ref: 3, Flt: negZero}, thing(impl.KTable, 3)},
	} {
		if a, b := impl.HashOf(r[0]), impl.HashOf(r[1]); a != b {
			t.Errorf("%s has %d, %s has %d", showValue(r[0]), a, showValue(r[1]), b)
		}
	}
}

// Floats of every exponent, with few and with all bits set, and ints all over their range.
func TestHashOfManyNumbers(t *testing.T) {
	r := dice(5)
	for exponent := range uint64(2047) {
		for _, fraction := range []uint64{0, 1, 1 << 51, 1<<52 - 1, uint64(r.below(1 << 30))} {
			f := math.Float64frombits(exponent<<52 | fraction | uint64(r.below(2))<<63)
			if got, want := impl.HashOf(float(f)), int64(modelHash(float(f))); got != want {
				t.Fatalf("%v: %d, want %d", f, got, want)
			}
		}
	}
	for shift := range 64 {
		n := num(int64(r.below(1<<30)+1) << shift)
		if got, want := impl.HashOf(n), int64(modelHash(n)); got != want {
			t.Fatalf("%d: %d, want %d", n.Num, got, want)
		}
	}
}
