package tests

import (
	"reflect"
	"testing"
)

// room is the memory that one slice may be written to, its spare room with it.
type room struct {
	name  string
	from  uintptr
	until uintptr
}

// roomsOf lists the memory of all slices within v.
func roomsOf(name string, v reflect.Value) []room {
	var list []room
	switch v.Kind() {
	case reflect.Struct:
		for i := range v.NumField() {
			list = append(list, roomsOf(name+"."+v.Type().Field(i).Name, v.Field(i))...)
		}
	case reflect.Slice:
		size := uintptr(v.Cap()) * v.Type().Elem().Size()
		if size > 0 {
			list = append(list, room{name, v.Pointer(), v.Pointer() + size})
		}
		for i := range v.Len() {
			list = append(list, roomsOf(name+"[]", v.Index(i))...)
		}
	}
	return list
}

// wantOwnMemory fails if two of the slices within all of values share memory.
func wantOwnMemory(t *testing.T, what string, values ...any) {
	t.Helper()
	var list []room
	for i, v := range values {
		list = append(list, roomsOf(string(rune('A'+i)), reflect.ValueOf(v))...)
	}
	for i, a := range list {
		for _, b := range list[:i] {
			if a.from < b.until && b.from < a.until {
				t.Errorf("%s: %s and %s share memory", what, a.name, b.name)
			}
		}
	}
}

// roomy is a copy of v in which each slice has spare room with values that are not zero.
func roomy[T any](v T) T { return remade(reflect.ValueOf(v), true).Interface().(T) }

// opened is a copy of v in which each slice is as long as it and its spare room together.
func opened[T any](v T) T { return remade(reflect.ValueOf(v), false).Interface().(T) }

func remade(v reflect.Value, spare bool) reflect.Value {
	out := reflect.New(v.Type()).Elem()
	switch v.Kind() {
	case reflect.Struct:
		for i := range v.NumField() {
			out.Field(i).Set(remade(v.Field(i), spare))
		}
	case reflect.Slice:
		if !spare {
			v = v.Slice(0, v.Cap())
		}
		n := v.Len()
		longer := reflect.MakeSlice(v.Type(), n+3, n+3)
		for i := range n {
			longer.Index(i).Set(remade(v.Index(i), spare))
		}
		if !spare {
			out.Set(longer.Slice3(0, n, n))
			break
		}
		for i := n; i < n+3; i++ {
			longer.Index(i).Set(filled(v.Type().Elem()))
		}
		out.Set(longer.Slice(0, n))
	default:
		out.Set(v)
	}
	return out
}

// filled is a value of type t that is not zero.
func filled(t reflect.Type) reflect.Value {
	out := reflect.New(t).Elem()
	switch t.Kind() {
	case reflect.Struct:
		for i := range t.NumField() {
			out.Field(i).Set(filled(t.Field(i).Type))
		}
	case reflect.Slice:
		out.Set(reflect.MakeSlice(t, 1, 1))
		out.Index(0).Set(filled(t.Elem()))
	case reflect.Int:
		out.SetInt(77)
	case reflect.Bool:
		out.SetBool(true)
	case reflect.String:
		out.SetString("spare")
	}
	return out
}

// wantUnwritten runs use on a roomy copy of v, and fails if v or its spare room is another one then.
func wantUnwritten[T any](t *testing.T, what string, v T, use func(T)) {
	t.Helper()
	given := roomy(v)
	before := opened(given)
	use(given)
	if !reflect.DeepEqual(opened(given), before) {
		t.Errorf("%s: an argument, or the room behind it, was written to", what)
	}
}

// TestMemoryHelpers makes sure that the helpers above see what they are there to see.
func TestMemoryHelpers(t *testing.T) {
	type pair struct{ A, B []int }
	list := []int{1, 2, 3, 4}
	apart := roomsOf("x", reflect.ValueOf(pair{list[:2:2], list[2:]}))
	joined := roomsOf("x", reflect.ValueOf(pair{list[:2], list[2:]}))
	if apart[0].until > apart[1].from || joined[0].until <= joined[1].from {
		t.Errorf("rooms: %v, %v", apart, joined)
	}
	given := roomy(pair{list, nil})
	if len(given.A) != 4 || cap(given.A) != 7 || given.A[:5][4] != 77 || &given.A[0] == &list[0] {
		t.Errorf("roomy: %v", given)
	}
	before := opened(given)
	_ = append(given.B, 5)
	if reflect.DeepEqual(opened(given), before) || len(before.A) != 7 || len(before.B) != 3 {
		t.Errorf("opened: %v", before)
	}
}
