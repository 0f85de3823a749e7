package tests

import (
	"fmt"
	"math"
	"slices"
	"strings"
	"testing"

	"loop.example/shuttle/impl"
)

const mostTurns = 1000000000000

var (
	negZero = math.Copysign(0, -1)
	nothing = impl.Value{}
)

func num(n int64) impl.Value       { return impl.Value{Kind: impl.KInt, Num: n} }
func text(s string) impl.Value     { return impl.Value{Kind: impl.KStr, Str: s} }
func float(f float64) impl.Value   { return impl.Value{Kind: impl.KFlt, Flt: f} }
func truth(n int64) impl.Value     { return impl.Value{Kind: impl.KBool, Num: n} }
func builtin(n int64) impl.Value   { return impl.Value{Kind: impl.KBuiltin, Num: n} }
func thing(kind, r int) impl.Value { return impl.Value{Kind: kind, Ref: r} }

// signed has a zero below 0 beside what it uses; it is for values that are no floats.
func signed(v impl.Value) impl.Value {
	v.Flt = negZero
	return v
}

// showValue tells floats by their bits, for == takes the two zeros for one and no NaN for itself.
func showValue(v impl.Value) string {
	bits := math.Float64bits(v.Flt)
	if math.IsNaN(v.Flt) {
		bits = math.Float64bits(math.NaN())
	}
	return fmt.Sprintf("{%d %d %x %q %d}", v.Kind, v.Num, bits, v.Str, v.Ref)
}

func showPair(p impl.Pair) string {
	return fmt.Sprintf("%s=%s@%d", showValue(p.Key), showValue(p.Val), p.Turn)
}

func showPairs(pairs []impl.Pair) string {
	var b strings.Builder
	for _, p := range pairs {
		b.WriteString(showPair(p))
		b.WriteByte('\n')
	}
	return b.String()
}

func show(d impl.Dict) string {
	return fmt.Sprintf("%sints %d index %d used %d live %d turns %d", showPairs(d.Log), d.Ints, d.Index, d.Used, d.Live, d.Turns)
}

func copyOf(d impl.Dict) impl.Dict {
	d.Log = slices.Clone(d.Log)
	d.Ints = slices.Clone(d.Ints)
	d.Index = slices.Clone(d.Index)
	return d
}

// dictOf puts each key with its number in the row, from 1 on, as the value.
func dictOf(keys ...impl.Value) impl.Dict {
	d := impl.Dict{}
	for i, k := range keys {
		d = impl.DictPut(d, k, num(int64(i)+1))
	}
	return d
}

func without(d impl.Dict, keys ...impl.Value) impl.Dict {
	for _, k := range keys {
		d = impl.DictPut(d, k, nothing)
	}
	return d
}

func wantDict(t *testing.T, what string, got, want impl.Dict) {
	t.Helper()
	if show(got) != show(want) {
		t.Errorf("%s: got\n%s\nwant\n%s", what, show(got), show(want))
	}
}

// dice is a row of numbers that is the same in every run.
type dice uint64

func (r *dice) below(n int) int {
	*r = *r*6364136223846793005 + 1442695040888963407
	return int(uint64(*r) >> 33 % uint64(n))
}

func shuffled(n int, seed uint64) []int64 {
	r := dice(seed)
	row := ascending(n)
	for i := n - 1; i > 0; i-- {
		j := r.below(i + 1)
		row[i], row[j] = row[j], row[i]
	}
	return row
}

func ascending(n int) []int64 {
	row := make([]int64, n)
	for i := range row {
		row[i] = int64(i) + 1
	}
	return row
}

// keyWith looks for a string that starts at a given entry of an index of that size; the strings that skip names are passed over.
func keyWith(t *testing.T, size, start uint64, skip ...impl.Value) impl.Value {
	t.Helper()
	for i := range 100000 {
		k := text(fmt.Sprint("k", i))
		if uint64(impl.HashOf(k))%size == start && !slices.Contains(skip, k) {
			return k
		}
	}
	t.Fatal("no such key")
	return nothing
}
