package tests

import (
	"slices"

	"loop.example/shuttle/impl"
)

// A second reading of chapter 2, on the bare list of shapes, that shares no code with the program.

func modelForestOk(f impl.Forest) int {
	rules := []func(f impl.Forest) bool{modelForestRule1, modelForestRule2, modelForestRule3, modelForestRule4, modelForestRule5}
	for i, holds := range rules {
		if !holds(f) {
			return i + 1
		}
	}
	return 0
}

func modelForestRule1(f impl.Forest) bool {
	return len(f.Shapes) != 0 && len(f.Shapes) <= 200
}

func modelForestRule2(f impl.Forest) bool {
	first := f.Shapes[0]
	return first.Parent == -1 && first.Key == "" && first.Count == 0
}

func modelForestRule3(f impl.Forest) bool {
	for i := 1; i < len(f.Shapes); i++ {
		s := f.Shapes[i]
		if s.Parent < 0 || s.Parent > i-1 {
			return false
		}
		if s.Count-1 != f.Shapes[s.Parent].Count || s.Count > 12 || len(s.Key) > 4000 {
			return false
		}
	}
	return true
}

func modelForestRule4(f impl.Forest) bool {
	for i, a := range f.Shapes {
		for _, b := range f.Shapes[i+1:] {
			if a.Parent == b.Parent && a.Key == b.Key {
				return false
			}
		}
	}
	return true
}

func modelForestRule5(f impl.Forest) bool {
	for i := range f.Shapes {
		fields := modelRow(f, i)
		slices.Sort(fields)
		if len(slices.Compact(fields)) != f.Shapes[i].Count {
			return false
		}
	}
	return true
}

// modelRow is the fields of a shape whose Parents hold.
func modelRow(f impl.Forest, shape int) []string {
	if shape == 0 {
		return nil
	}
	return append(modelRow(f, f.Shapes[shape].Parent), f.Shapes[shape].Key)
}

func modelFields(f impl.Forest, shape int) []string {
	if modelForestOk(f) != 0 || shape < 0 || shape > len(f.Shapes)-1 {
		return nil
	}
	return modelRow(f, shape)
}

func modelGrow(f impl.Forest, shape int, key string) impl.Grown {
	refused := modelForestOk(f) != 0 || shape < 0 || shape > len(f.Shapes)-1 || len(key) > 4000
	if refused || slices.Contains(modelRow(f, shape), key) {
		return impl.Grown{Shape: -1}
	}
	for i, s := range f.Shapes {
		if s.Parent == shape && s.Key == key {
			return impl.Grown{Forest: f, Shape: i}
		}
	}
	if len(modelRow(f, shape)) == 12 || len(f.Shapes) == 200 {
		return impl.Grown{Forest: f, Shape: -1}
	}
	grown := impl.Shape{Parent: shape, Key: key, Count: f.Shapes[shape].Count + 1}
	return impl.Grown{Forest: impl.Forest{Shapes: append(slices.Clone(f.Shapes), grown)}, Shape: len(f.Shapes)}
}
