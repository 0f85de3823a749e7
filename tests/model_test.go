package tests

import (
	"fmt"
	"hash/fnv"
	"math"
	"math/big"
	"slices"

	"loop.example/shuttle/impl"
)

// A second reading of the document, on the bare lists of a dict, that shares no code with the program.

func modelValid(v impl.Value) bool {
	noNum, noFlt, noStr, noRef := v.Num == 0, v.Flt == 0, v.Str == "", v.Ref == 0
	switch v.Kind {
	case impl.KNil:
		return noNum && noFlt && noStr && noRef
	case impl.KBool:
		return (v.Num == 0 || v.Num == 1) && noFlt && noStr && noRef
	case impl.KInt:
		return noFlt && noStr && noRef
	case impl.KFlt:
		return noNum && noStr && noRef
	case impl.KStr:
		return len(v.Str) <= 4000 && noNum && noFlt && noRef
	case impl.KTable, impl.KFn, impl.KTask:
		return v.Ref >= 0 && noNum && noFlt && noStr
	case impl.KBuiltin:
		return v.Num >= 0 && v.Num <= 14 && noFlt && noStr && noRef
	}
	return false
}

func modelKey(v impl.Value) (impl.Value, int) {
	if !modelValid(v) {
		return nothing, 2
	}
	if v.Kind == impl.KNil || v.Kind == impl.KFlt && v.Flt != v.Flt {
		return nothing, 1
	}
	if v.Kind == impl.KFlt && !math.IsInf(v.Flt, 0) {
		if whole, exact := big.NewFloat(v.Flt).Int(nil); exact == big.Exact && whole.IsInt64() {
			return num(whole.Int64()), 0
		}
	}
	return v, 0
}

func modelMix(x *big.Int) uint64 {
	mod := new(big.Int).Lsh(big.NewInt(1), 64)
	x = new(big.Int).Mod(x, mod)
	for _, factor := range []string{"18397679294719823053", "14181476777654086739"} {
		f, _ := new(big.Int).SetString(factor, 10)
		x.Xor(x, new(big.Int).Rsh(x, 33))
		x.Mod(x.Mul(x, f), mod)
	}
	x.Xor(x, new(big.Int).Rsh(x, 33))
	return x.Uint64()
}

func modelFloatText(f float64) string {
	if math.IsInf(f, 0) {
		return map[bool]string{true: "inf", false: "-inf"}[f > 0]
	}
	e := 0
	for f != math.Trunc(f) {
		f, e = f*2, e-1
	}
	for math.Mod(f, 2) == 0 {
		f, e = f/2, e+1
	}
	return fmt.Sprintf("%.0fp%d", f, e)
}

func modelHash(v impl.Value) uint64 {
	k, code := modelKey(v)
	if code != 0 {
		return 0
	}
	s := k.Str
	switch k.Kind {
	case impl.KInt:
		return modelMix(big.NewInt(k.Num))
	case impl.KFlt:
		s = modelFloatText(k.Flt)
	case impl.KStr:
	default:
		x := new(big.Int).Lsh(big.NewInt(int64(k.Kind)), 40)
		x.Add(x, big.NewInt(k.Num))
		return modelMix(x.Add(x, big.NewInt(int64(k.Ref))))
	}
	h := fnv.New64a()
	h.Write([]byte(s))
	return h.Sum64()
}

func modelSame(a, b impl.Value) bool {
	if a.Kind != b.Kind {
		return false
	}
	return a.Num == b.Num && a.Flt == b.Flt && a.Str == b.Str && a.Ref == b.Ref
}

// modelLook answers the entry of Index that holds a key, -1 for none.
func modelLook(d impl.Dict, k impl.Value) int {
	n := len(d.Index)
	for i := range n {
		at := int((modelHash(k)%uint64(n) + uint64(i)) % uint64(n))
		x := d.Index[at]
		if x == 0 {
			return -1
		}
		if x > 0 && modelSame(d.Log[x-1].Key, k) {
			return at
		}
	}
	return -1
}

func modelPlaced(d impl.Dict, k impl.Value) bool {
	return k.Kind == impl.KInt && k.Num >= 1 && k.Num <= int64(len(d.Ints))
}

func modelOk(d impl.Dict) int {
	rules := []func(impl.Dict) bool{modelRule1, modelRule2, modelRule3, modelRule4, modelRule5}
	for i, r := range rules {
		if !r(d) {
			return i + 1
		}
	}
	return 0
}

func modelRule1(d impl.Dict) bool {
	return d.Live >= 0 && d.Live <= 500 && d.Turns >= 0 && d.Turns <= mostTurns && (len(d.Log) <= 8 || len(d.Log) <= 2*d.Live)
}

func modelRule2(d impl.Dict) bool {
	live, last := 0, 0
	for _, p := range d.Log {
		if p.Turn == 0 {
			for _, v := range []impl.Value{p.Key, p.Val} {
				if v.Kind != 0 || !modelValid(v) {
					return false
				}
			}
			continue
		}
		k, code := modelKey(p.Key)
		if code != 0 || k.Kind != p.Key.Kind || !modelValid(p.Val) || p.Val.Kind == impl.KNil || p.Turn <= last || p.Turn > d.Turns {
			return false
		}
		live, last = live+1, p.Turn
	}
	return live == d.Live
}

func modelRule3(d impl.Dict) bool {
	for i, x := range d.Ints {
		if x != 0 && (x < 0 || x > len(d.Log) || d.Log[x-1].Turn == 0 || !modelSame(d.Log[x-1].Key, num(int64(i+1)))) {
			return false
		}
	}
	return len(d.Ints) == 0 || d.Ints[len(d.Ints)-1] != 0
}

func modelRule4(d impl.Dict) bool {
	if !slices.Contains([]int{0, 8, 16, 32, 64, 128, 256, 512, 1024, 2048}, len(d.Index)) {
		return false
	}
	used := 0
	for _, x := range d.Index {
		if x < -1 || x > len(d.Log) || x > 0 && (d.Log[x-1].Turn == 0 || modelPlaced(d, d.Log[x-1].Key)) {
			return false
		}
		if x != 0 {
			used++
		}
	}
	return used == d.Used && 2*used <= len(d.Index)
}

func modelRule5(d impl.Dict) bool {
	for i, p := range d.Log {
		if p.Turn == 0 {
			continue
		}
		stands := 0
		for _, x := range append(slices.Clone(d.Ints), d.Index...) {
			if x == i+1 {
				stands++
			}
		}
		if stands != 1 || modelSame(p.Key, num(int64(len(d.Ints)+1))) {
			return false
		}
		if modelPlaced(d, p.Key) {
			if d.Ints[p.Key.Num-1] != i+1 {
				return false
			}
		} else if at := modelLook(d, p.Key); at < 0 || d.Index[at] != i+1 {
			return false
		}
	}
	return true
}

func modelPut(d impl.Dict, key, v impl.Value) impl.Dict {
	k, code := modelKey(key)
	if code != 0 || !modelValid(v) || modelOk(d) != 0 {
		return impl.Dict{}
	}
	d = copyOf(d)
	at := -1
	for i, p := range d.Log {
		if p.Turn != 0 && modelSame(p.Key, k) {
			at = i
		}
	}
	switch {
	case at >= 0 && v.Kind != impl.KNil:
		d.Log[at].Val = v
	case at >= 0:
		modelGo(&d, k, at)
	case v.Kind != impl.KNil && d.Live < 500 && d.Turns < mostTurns:
		modelCome(&d, k, v)
	}
	return d
}

func modelGo(d *impl.Dict, k impl.Value, at int) {
	if modelPlaced(*d, k) {
		d.Ints[k.Num-1] = 0
	} else {
		d.Index[modelLook(*d, k)] = -1
	}
	for n := len(d.Ints); n > 0 && d.Ints[n-1] == 0; n-- {
		d.Ints = d.Ints[:n-1]
	}
	d.Log[at] = impl.Pair{}
	d.Live--
	modelTight(d)
}

func modelCome(d *impl.Dict, k, v impl.Value) {
	modelTight(d)
	d.Turns++
	d.Live++
	d.Log = append(d.Log, impl.Pair{Key: k, Val: v, Turn: d.Turns})
	place := len(d.Log)
	if modelPlaced(*d, k) {
		d.Ints[k.Num-1] = place
	} else if modelSame(k, num(int64(len(d.Ints)+1))) {
		d.Ints = append(d.Ints, place)
		for {
			at := modelLook(*d, num(int64(len(d.Ints)+1)))
			if at < 0 {
				break
			}
			d.Ints = append(d.Ints, d.Index[at])
			d.Index[at] = -1
		}
	} else {
		if 2*(d.Used+1) > len(d.Index) {
			modelAnew(d, 1)
		}
		modelEnter(d, place)
	}
}

func modelTight(d *impl.Dict) {
	if len(d.Log) < 8 || 2*d.Live >= len(d.Log) {
		return
	}
	moved := make([]int, len(d.Log)+1)
	var log []impl.Pair
	for i, p := range d.Log {
		if p.Turn != 0 {
			log = append(log, p)
			moved[i+1] = len(log)
		}
	}
	for i, x := range d.Ints {
		d.Ints[i] = moved[x]
	}
	for i, x := range d.Index {
		if x > 0 {
			d.Index[i] = moved[x]
		}
	}
	d.Log = log
	modelAnew(d, 0)
}

func modelAnew(d *impl.Dict, further int) {
	var held []int
	for _, x := range d.Index {
		if x > 0 {
			held = append(held, x)
		}
	}
	slices.Sort(held)
	n, size := len(held)+further, 0
	if n > 0 {
		for size = 8; size < 4*n; size *= 2 {
		}
	}
	d.Index, d.Used = make([]int, size), 0
	for _, x := range held {
		modelEnter(d, x)
	}
}

func modelEnter(d *impl.Dict, place int) {
	n := uint64(len(d.Index))
	at := modelHash(d.Log[place-1].Key) % n
	for d.Index[at] > 0 {
		at = (at + 1) % n
	}
	if d.Index[at] == 0 {
		d.Used++
	}
	d.Index[at] = place
}
