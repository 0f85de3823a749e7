package impl

import (
	"iter"
	"math"
	"math/bits"
	"strconv"
)

const (
	KNil     = 0
	KBool    = 1
	KInt     = 2
	KFlt     = 3
	KStr     = 4
	KTable   = 5
	KFn      = 6
	KTask    = 7
	KBuiltin = 8
)

const (
	MaxStr   = 4000
	MaxPairs = 500
	Builtins = 15
)

const (
	maxTurns = 1000000000000
	shortLog = 8
	minIndex = 8
	maxIndex = 4000
)

// What KeyOf answers for a value that is no key.
const (
	codeKeyless = 1
	codeInvalid = 2
)

// Value is a value of the language.
type Value struct {
	Kind int
	Num  int64
	Flt  float64
	Str  string
	Ref  int
}

// Keyed is a value as a key, or the code of an error.
type Keyed struct {
	Code  int
	Value Value
}

// Pair is a key and its value; Turn tells when the key came.
type Pair struct {
	Key  Value
	Val  Value
	Turn int
}

// Found is a pair, if there is one.
type Found struct {
	Found bool
	Pair  Pair
}

// Dict is pairs in the order in which their keys came, with two ways to find them: by small ints, and by hashes.
type Dict struct {
	Log   []Pair
	Ints  []int
	Index []int
	Used  int
	Live  int
	Turns int
}

func KeyOf(v Value) Keyed {
	if !isValid(v) {
		return Keyed{Code: codeInvalid}
	}
	if v.Kind == KNil || v.Kind == KFlt && math.IsNaN(v.Flt) {
		return Keyed{Code: codeKeyless}
	}
	if v.Kind == KFlt && isWhole(v.Flt) {
		return Keyed{Value: intValue(int64(v.Flt))}
	}
	return Keyed{Value: v}
}

func HashOf(v Value) int64 {
	key := KeyOf(v)
	if key.Code != 0 {
		return 0
	}
	return int64(hashKey(key.Value))
}

func DictOk(d Dict) int {
	s := soundness{d}
	// Each rule may lean on those before it, so the order is part of what they mean.
	rules := [...]func() bool{s.countsFit, s.logHolds, s.intsHold, s.indexHolds, s.allAreFound}
	for i, holds := range rules {
		if !holds() {
			return i + 1
		}
	}
	return 0
}

func DictGet(d Dict, k Value) Value {
	key := KeyOf(k)
	if key.Code != 0 || DictOk(d) != 0 {
		return Value{}
	}
	if e := openBook(d).find(key.Value); e != nil {
		return e.pair.Val
	}
	return Value{}
}

func DictPut(d Dict, k, v Value) Dict {
	key := KeyOf(k)
	if key.Code != 0 || !isValid(v) || DictOk(d) != 0 {
		return Dict{}
	}
	b := openBook(d)
	b.put(key.Value, v)
	return b.dict()
}

func DictAfter(d Dict, turn int) Found {
	if DictOk(d) != 0 {
		return Found{}
	}
	for e := range openBook(d).living() {
		if e.pair.Turn > turn {
			return Found{Found: true, Pair: e.pair}
		}
	}
	return Found{}
}

func DictLen(d Dict) int {
	if DictOk(d) != 0 {
		return 0
	}
	// The int one above the number of Ints is never a key of a sound dict, so the row ends within Ints.
	for i, x := range d.Ints {
		if x == 0 {
			return i
		}
	}
	return len(d.Ints)
}

func DictPairs(d Dict) []Pair {
	if DictOk(d) != 0 {
		return nil
	}
	var pairs []Pair
	for e := range openBook(d).living() {
		pairs = append(pairs, e.pair)
	}
	return pairs
}

func copyDict(d Dict) Dict {
	d.Log = append([]Pair(nil), d.Log...)
	d.Ints = append([]int(nil), d.Ints...)
	d.Index = append([]int(nil), d.Index...)
	return d
}

func intValue(n int64) Value {
	return Value{Kind: KInt, Num: n}
}

func isValid(v Value) bool {
	// What the Kind uses is judged and then cleared: == takes the rest for empty with a zero of either sign, and never with a NaN.
	rest := v
	rest.Kind = 0
	fits := true
	switch v.Kind {
	case KNil:
	case KBool:
		fits = v.Num == 0 || v.Num == 1
		rest.Num = 0
	case KInt:
		rest.Num = 0
	case KFlt:
		rest.Flt = 0
	case KStr:
		fits = len(v.Str) <= MaxStr
		rest.Str = ""
	case KTable, KFn, KTask:
		fits = v.Ref >= 0
		rest.Ref = 0
	case KBuiltin:
		fits = v.Num >= 0 && v.Num < Builtins
		rest.Num = 0
	default:
		fits = false
	}
	return fits && rest == Value{}
}

// isWhole has the bounds of an int64 in it because only within them is the conversion to one defined.
func isWhole(f float64) bool {
	return f >= -1<<63 && f < 1<<63 && f == math.Trunc(f)
}

// isKey compares whole structs: a float that is an int as a key changes its Kind, and no key is a NaN.
func isKey(v Value) bool {
	key := KeyOf(v)
	return key.Code == 0 && key.Value == v
}

func hashKey(key Value) uint64 {
	switch key.Kind {
	case KStr:
		return hashText(key.Str)
	case KFlt:
		return hashText(floatText(key.Flt))
	case KInt:
		return mix(uint64(key.Num))
	}
	return mix(uint64(key.Kind)<<40 + uint64(key.Num) + uint64(key.Ref))
}

func hashText(s string) uint64 {
	h := uint64(14695981039346656037)
	for i := range len(s) {
		h ^= uint64(s[i])
		h *= 1099511628211
	}
	return h
}

func mix(x uint64) uint64 {
	x ^= x >> 33
	x *= 18397679294719823053
	x ^= x >> 33
	x *= 14181476777654086739
	return x ^ x>>33
}

// floatText is only for floats that are keys: a zero has no odd number in it, and is an int as a key.
func floatText(f float64) string {
	if math.IsInf(f, 1) {
		return "inf"
	}
	if math.IsInf(f, -1) {
		return "-inf"
	}
	const mantissaBits = 53
	fraction, exponent := math.Frexp(f)
	m := int64(fraction * (1 << mantissaBits))
	even := bits.TrailingZeros64(uint64(m))
	return strconv.FormatInt(m>>even, 10) + "p" + strconv.Itoa(exponent-mantissaBits+even)
}

// hasPlace takes the number of Ints because the rules ask it of a dict that may not be sound, and a book of one that is.
func hasPlace(key Value, ints int) bool {
	return key.Kind == KInt && key.Num >= 1 && key.Num <= int64(ints)
}

// soundness is a dict that is held against the rules of DictOk.
type soundness struct {
	d Dict
}

func (s soundness) countsFit() bool {
	d := s.d
	if d.Live < 0 || d.Live > MaxPairs || d.Turns < 0 || d.Turns > maxTurns {
		return false
	}
	return len(d.Log) <= shortLog || len(d.Log) <= 2*d.Live
}

func (s soundness) logHolds() bool {
	live, last := 0, 0
	for _, p := range s.d.Log {
		if p.Turn == 0 {
			if p != (Pair{}) {
				return false
			}
			continue
		}
		if p.Turn <= last || p.Turn > s.d.Turns {
			return false
		}
		if !isKey(p.Key) || !isValid(p.Val) || p.Val.Kind == KNil {
			return false
		}
		live++
		last = p.Turn
	}
	return live == s.d.Live
}

func (s soundness) intsHold() bool {
	for i, x := range s.d.Ints {
		if x == 0 {
			continue
		}
		if !s.isLiving(x) || s.d.Log[x-1].Key != intValue(int64(i)+1) {
			return false
		}
	}
	n := len(s.d.Ints)
	return n == 0 || s.d.Ints[n-1] != 0
}

func (s soundness) indexHolds() bool {
	n := len(s.d.Index)
	if n != 0 && (n < minIndex || n > maxIndex || bits.OnesCount(uint(n)) != 1) {
		return false
	}
	used := 0
	for _, x := range s.d.Index {
		if x == 0 {
			continue
		}
		used++
		if x == -1 {
			continue
		}
		if !s.isLiving(x) || hasPlace(s.d.Log[x-1].Key, len(s.d.Ints)) {
			return false
		}
	}
	return used == s.d.Used && 2*used <= n
}

// allAreFound opens the dict as a book, which it may: by the rules before it no entry points out of the log.
func (s soundness) allAreFound() bool {
	b := openBook(s.d)
	stands := s.timesNamed()
	next := b.nextInt()
	for e := range b.living() {
		if stands[e.place] != 1 || b.find(e.pair.Key) != e || e.pair.Key == next {
			return false
		}
	}
	return true
}

func (s soundness) timesNamed() []int {
	times := make([]int, len(s.d.Log))
	for _, list := range [...][]int{s.d.Ints, s.d.Index} {
		for _, x := range list {
			if x > 0 {
				times[x-1]++
			}
		}
	}
	return times
}

func (s soundness) isLiving(x int) bool {
	return x >= 1 && x <= len(s.d.Log) && s.d.Log[x-1].Turn != 0
}

// entry is a pair of a book's log. Whoever finds it does so by a pointer, and so follows when its place changes.
type entry struct {
	pair  Pair
	place int
}

// book is a sound dict while it is worked on; it shares no memory with the dict that it was opened from.
type book struct {
	log   []*entry
	ints  []*entry
	index openMap[Value, *entry]
	live  int
	turns int
}

func openBook(d Dict) *book {
	b := &book{live: d.Live, turns: d.Turns}
	b.log = make([]*entry, len(d.Log))
	for place, p := range d.Log {
		b.log[place] = &entry{pair: p, place: place}
	}
	b.ints = make([]*entry, len(d.Ints))
	for i, x := range d.Ints {
		if x > 0 {
			b.ints[i] = b.log[x-1]
		}
	}
	b.index = openMap[Value, *entry]{hash: hashKey, used: d.Used}
	b.index.slots = make([]*slot[Value, *entry], len(d.Index))
	for i, x := range d.Index {
		if x > 0 {
			b.index.slots[i] = &slot[Value, *entry]{key: b.log[x-1].pair.Key, val: b.log[x-1]}
		} else if x < 0 {
			b.index.slots[i] = &slot[Value, *entry]{gone: true}
		}
	}
	return b
}

func (b *book) dict() Dict {
	d := Dict{Used: b.index.used, Live: b.live, Turns: b.turns}
	for _, e := range b.log {
		d.Log = append(d.Log, e.pair)
	}
	d.Ints = make([]int, len(b.ints))
	for i, e := range b.ints {
		if e != nil {
			d.Ints[i] = e.place + 1
		}
	}
	d.Index = make([]int, len(b.index.slots))
	for i, s := range b.index.slots {
		if s != nil && s.gone {
			d.Index[i] = -1
		} else if s != nil {
			d.Index[i] = s.val.place + 1
		}
	}
	return d
}

func (b *book) living() iter.Seq[*entry] {
	return func(yield func(*entry) bool) {
		for _, e := range b.log {
			// A dead pair is known by its Turn: a caller may ask for turns below 0, which 0 is above.
			if e.pair.Turn != 0 && !yield(e) {
				return
			}
		}
	}
}

func (b *book) nextInt() Value {
	return intValue(int64(len(b.ints)) + 1)
}

func (b *book) find(key Value) *entry {
	if hasPlace(key, len(b.ints)) {
		return b.ints[key.Num-1]
	}
	if at := b.index.find(key); at >= 0 {
		return b.index.slots[at].val
	}
	return nil
}

func (b *book) put(key, v Value) {
	e := b.find(key)
	if e != nil && v.Kind != KNil {
		e.pair.Val = v
	} else if e != nil {
		b.remove(e)
	} else if v.Kind != KNil && b.live < MaxPairs && b.turns < maxTurns {
		b.add(key, v)
	}
}

func (b *book) remove(e *entry) {
	if hasPlace(e.pair.Key, len(b.ints)) {
		b.removeInt(e.pair.Key.Num)
	} else {
		b.index.remove(b.index.find(e.pair.Key))
	}
	e.pair = Pair{}
	b.live--
	if b.isLoose() {
		b.tighten()
	}
}

func (b *book) removeInt(n int64) {
	b.ints[n-1] = nil
	for len(b.ints) > 0 && b.ints[len(b.ints)-1] == nil {
		b.ints = b.ints[:len(b.ints)-1]
	}
}

// add lets the entry be found before it comes into the log: an Index that is made anew on the way is made of what was in the log before.
func (b *book) add(key, v Value) {
	if b.isLoose() {
		b.tighten()
	}
	b.turns++
	b.live++
	e := &entry{pair: Pair{Key: key, Val: v, Turn: b.turns}, place: len(b.log)}
	if hasPlace(key, len(b.ints)) {
		b.ints[key.Num-1] = e
	} else if key == b.nextInt() {
		b.addNextInt(e)
	} else {
		b.addToIndex(e)
	}
	b.log = append(b.log, e)
}

func (b *book) addNextInt(e *entry) {
	b.ints = append(b.ints, e)
	for at := b.index.find(b.nextInt()); at >= 0; at = b.index.find(b.nextInt()) {
		b.ints = append(b.ints, b.index.slots[at].val)
		b.index.remove(at)
	}
}

func (b *book) addToIndex(e *entry) {
	if 2*(b.index.used+1) > len(b.index.slots) {
		b.remakeIndex(1)
	}
	b.index.add(e.pair.Key, e)
}

func (b *book) isLoose() bool {
	return len(b.log) >= shortLog && 2*b.live < len(b.log)
}

func (b *book) tighten() {
	var tight []*entry
	for e := range b.living() {
		e.place = len(tight)
		tight = append(tight, e)
	}
	b.log = tight
	b.remakeIndex(0)
}

func (b *book) remakeIndex(further int) {
	var held []*entry
	for e := range b.living() {
		if !hasPlace(e.pair.Key, len(b.ints)) {
			held = append(held, e)
		}
	}
	b.index.empty(indexSize(len(held) + further))
	for _, e := range held {
		b.index.add(e.pair.Key, e)
	}
}

func indexSize(keys int) int {
	if keys == 0 {
		return 0
	}
	size := minIndex
	for size < 4*keys {
		size *= 2
	}
	return size
}

// slot is an entry of an openMap that is or was filled. One that is gone stays, so that a search goes on over it.
type slot[K comparable, V any] struct {
	key  K
	val  V
	gone bool
}

// openMap is a map whose entries stand in one row, from the place that the hash tells on. It does not grow by itself: how great it is belongs to what a dict shows.
type openMap[K comparable, V any] struct {
	hash  func(K) uint64
	slots []*slot[K, V]
	used  int
}

func (m *openMap[K, V]) empty(size int) {
	m.slots = make([]*slot[K, V], size)
	m.used = 0
}

// from goes through the numbers of all slots in the order in which a key is looked for.
func (m *openMap[K, V]) from(key K) iter.Seq[int] {
	return func(yield func(int) bool) {
		n := uint64(len(m.slots))
		if n == 0 {
			return
		}
		first := m.hash(key) % n
		for step := range n {
			if !yield(int((first + step) % n)) {
				return
			}
		}
	}
}

// find answers -1 for a key that is not there.
func (m *openMap[K, V]) find(key K) int {
	for at := range m.from(key) {
		s := m.slots[at]
		if s == nil {
			return -1
		}
		if !s.gone && s.key == key {
			return at
		}
	}
	return -1
}

// add is for a key that is not there, and only while a slot is free.
func (m *openMap[K, V]) add(key K, val V) {
	for at := range m.from(key) {
		s := m.slots[at]
		if s != nil && !s.gone {
			continue
		}
		if s == nil {
			m.used++
		}
		m.slots[at] = &slot[K, V]{key: key, val: val}
		return
	}
}

func (m *openMap[K, V]) remove(at int) {
	m.slots[at] = &slot[K, V]{gone: true}
}
