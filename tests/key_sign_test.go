package tests

import (
	"slices"
	"testing"

	"loop.example/shuttle/impl"
)

// P8 and P9, of zeros beside a key: their sign makes it no other key, and is kept as it came where a dict or a plain list has the key. A shape has the string alone.

// bare is how a shape has a key: strings alone, other keys never.
func bare(k impl.Value) impl.Value {
	if k.Kind == impl.KStr {
		return text(k.Str)
	}
	return k
}

// wantSigned holds Ideally against the steps, Play against them with strings alone where asBare says so, and Play against the second reading of Do.
func wantSigned(t *testing.T, what string, steps []step, asBare bool) (impl.Played, impl.Ideal) {
	t.Helper()
	played, ideal := wantSteps(t, what, steps)
	for i, s := range steps {
		want := s.want
		if asBare {
			want.Key = bare(want.Key)
		}
		if got := showAns(played.Ans[i]); got != showAns(want) {
			t.Errorf("%s: act %d, %s: Play has %.300s, want %.300s", what, i, showAct(s.a), got, showAns(want))
		}
	}
	var acts []impl.Act
	for _, s := range steps {
		acts = append(acts, s.a)
	}
	wantByModel(t, what, acts)
	return played, ideal
}

func TestZerosBesideKeys(t *testing.T) {
	for _, k := range []impl.Value{text("x"), text(""), text(longKey), num(1), num(9), num(-3), truth(1), thing(impl.KFn, 3), builtin(3)} {
		for _, keys := range [][2]impl.Value{{k, signed(k)}, {signed(k), k}, {signed(k), signed(k)}} {
			first, twin := keys[0], keys[1]
			steps := func(turn int, begin step) []step {
				return []step{
					{actNew(), numbered(0)}, begin, {actPut(0, first, num(1)), impl.Ans{}}, {actPut(0, twin, num(2)), impl.Ans{}}, {actGet(0, twin), val(num(2))},
					{actAfter(0, turn-1), impl.Ans{Num: turn, Key: first, Val: num(2)}}, {actCount(0), numbered(turn)},
				}
			}
			again := func(turn int) []step {
				return []step{
					{actPut(0, twin, nothing), impl.Ans{}}, {actGet(0, first), impl.Ans{}}, {actCount(0), numbered(turn - 1)},
					{actPut(0, twin, num(3)), impl.Ans{}}, {actAfter(0, turn), impl.Ans{Num: turn + 1, Key: twin, Val: num(3)}},
				}
			}
			inDict := append(steps(2, step{actPut(0, num(5), num(5)), impl.Ans{}}), again(2)...)
			played, ideal := wantSigned(t, "a dict", inDict, false)
			pairs := []impl.Pair{pair(num(5), num(5), 1), pair(twin, num(3), 3)}
			wantPairs(t, "a dict", played.Store, 0, pairs...)
			wantPlain(t, "a dict", ideal.Tables[0], 3, pairs...)

			inShape := steps(1, step{actCount(0), numbered(0)})
			played, ideal = wantSigned(t, "a new table", inShape, true)
			wantPairs(t, "a new table", played.Store, 0, pair(bare(first), num(2), 1))
			wantPlain(t, "a new table", ideal.Tables[0], 1, pair(first, num(2), 1))

			// Nil takes the shape too, so that the key comes back into a dict.
			acts := []impl.Act{}
			for _, s := range append(inShape, again(1)...) {
				acts = append(acts, s.a)
			}
			back, _ := wantScript(t, "it comes back", acts)
			wantPairs(t, "it comes back", back.Store, 0, pair(twin, num(3), 2))
			wantByModel(t, "it comes back", acts)
		}
	}
}

// A table that loses its shape has its fields alone, and the key by which it lost it as that came.
func TestZerosBesideKeysOfALostShape(t *testing.T) {
	acts := []impl.Act{actNew(), actPut(0, signed(text("x")), num(1)), actPut(0, text("y"), num(2))}
	plain := []impl.Pair{pair(signed(text("x")), num(1), 1), pair(text("y"), num(2), 2)}
	seen := []impl.Pair{pair(text("x"), num(1), 1), pair(text("y"), num(2), 2)}
	for _, k := range []impl.Value{num(1), num(7), truth(0), thing(impl.KTask, 1)} {
		played, ideal := wantScript(t, "by another key", append(slices.Clone(acts), actPut(0, signed(k), num(3))))
		wantPairs(t, "by another key", played.Store, 0, append(slices.Clone(seen), pair(signed(k), num(3), 3))...)
		wantPlain(t, "by another key", ideal.Tables[0], 3, append(slices.Clone(plain), pair(signed(k), num(3), 3))...)
	}
	played, ideal := wantScript(t, "by nil", append(slices.Clone(acts), actPut(0, signed(text("y")), signed(nothing))))
	wantPairs(t, "by nil", played.Store, 0, seen[:1]...)
	wantPlain(t, "by nil", ideal.Tables[0], 2, plain[:1]...)

	twelve := storeOf(chain(names(12)...), record(12, numbers(12)...))
	full := storeOf(wide(200), record(0))
	for _, key := range []string{"new", "", longKey} {
		wantLost(t, "by a field too many", twelve, 0, actPut(0, signed(text(key)), num(13)), signed(text(key)), num(13))
		wantLost(t, "by a full forest", full, 0, actPut(0, signed(text(key)), num(1)), signed(text(key)), num(1))
	}
	s := impl.Do(twelve, actPut(0, signed(text("new")), num(13))).Store
	wantSame(t, "behind a field too many", s, actAfter(0, 12), impl.Ans{Num: 13, Key: signed(text("new")), Val: num(13)})
}

// What stands at a key of a dict changes, the key does not, until it goes.
func TestZerosBesideStringsOfADict(t *testing.T) {
	s := storeOf(chain("x"), dictTable(dictOf(num(1), signed(text("x")), text("y"))))
	for _, k := range []impl.Value{text("x"), signed(text("x")), text("y"), signed(text("y")), text("new"), signed(text("new"))} {
		wantDone(t, "a write", s, actPut(0, k, num(8)), impl.Ans{}, putBehind(s, 0, k, num(8)))
		wantDone(t, "nil", s, actPut(0, k, nothing), impl.Ans{}, putBehind(s, 0, k, nothing))
	}
	wantSame(t, "as it came", s, actAfter(0, 1), impl.Ans{Num: 2, Key: signed(text("x")), Val: num(2)})
	wantSame(t, "its twin", s, actGet(0, text("x")), val(num(2)))
	behind := impl.Do(s, actPut(0, signed(text("y")), num(8))).Store
	wantPairs(t, "keys that were there", impl.Do(behind, actPut(0, text("x"), num(9))).Store, 0, pair(num(1), num(1), 1), pair(signed(text("x")), num(9), 2), pair(text("y"), num(8), 3))
}

// A site is just a string: it finds a key with either zero beside it, and what it writes anew has the string alone.
func TestZerosBesideTheKeyOfASite(t *testing.T) {
	site := impl.Act{Op: impl.ASite, K: signed(text("x"))}
	wantSigned(t, "a site", []step{
		{site, numbered(0)}, {actNew(), numbered(0)}, {actSetField(0, 0, num(1)), impl.Ans{}}, {actAfter(0, 0), impl.Ans{Num: 1, Key: text("x"), Val: num(1)}},
		{actPut(0, num(1), num(2)), impl.Ans{}}, {actSetField(0, 0, nothing), impl.Ans{}}, {actSetField(0, 0, num(3)), impl.Ans{}}, {actAfter(0, 2), impl.Ans{Num: 3, Key: text("x"), Val: num(3)}},
		{actPut(0, signed(text("x")), nothing), impl.Ans{}}, {actPut(0, signed(text("x")), num(4)), impl.Ans{}}, {actField(0, 0), val(num(4))},
		{actSetField(0, 0, num(5)), impl.Ans{}}, {actAfter(0, 3), impl.Ans{Num: 4, Key: signed(text("x")), Val: num(5)}},
		{actSetField(0, 0, nothing), impl.Ans{}}, {actGet(0, signed(text("x"))), impl.Ans{}}, {actCount(0), numbered(1)},
	}, false)
}
