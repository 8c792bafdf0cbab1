package values

import (
	"fmt"
	"reflect"
	"testing"

	"holloway/api"
)

// fill makes all parts of a value something, two parts of each list, and other things with another seed; conditions end where deep is 0.
func fill(v reflect.Value, seed, deep int) {
	switch v.Kind() {
	case reflect.Int:
		v.SetInt(int64(seed))
	case reflect.Uint64:
		v.SetUint(uint64(seed))
	case reflect.Bool:
		v.SetBool(true)
	case reflect.String:
		v.SetString(fmt.Sprint("s", seed))
	case reflect.Struct:
		for i := range v.NumField() {
			fill(v.Field(i), seed+i, deep)
		}
	case reflect.Array:
		for i := range v.Len() {
			fill(v.Index(i), seed+i, deep)
		}
	case reflect.Slice:
		if v.Type().Elem() == reflect.TypeFor[api.Cond]() {
			deep--
		}
		if deep < 0 {
			return
		}
		v.Set(reflect.MakeSlice(v.Type(), 2, 3))
		for i := range 2 {
			fill(v.Index(i), seed+10*i, deep)
		}
	default:
		panic(v.Kind())
	}
}

// filled is a value that is something in all parts.
func filled[T any]() T {
	var x T
	fill(reflect.ValueOf(&x).Elem(), 1, 2)
	return x
}

// parts does something with all numbers, strings, flags and lists of a value that are not zero.
func parts(v reflect.Value, do func(v reflect.Value)) {
	switch v.Kind() {
	case reflect.Struct:
		for i := range v.NumField() {
			parts(v.Field(i), do)
		}
	case reflect.Slice:
		if v.Len() > 0 {
			do(v)
		}
		for i := range v.Len() {
			parts(v.Index(i), do)
		}
	case reflect.Array:
		for i := range v.Len() {
			parts(v.Index(i), do)
		}
	default:
		do(v)
	}
}

// each holds that copies are the same values, in memory of their own, and that no part may differ in two that are the same.
func each[T any](t *testing.T, name string, copied func(x T) T, same func(x, y T) bool) {
	want := fmt.Sprintf("%+v", filled[T]())
	n := 0
	parts(reflect.ValueOf(new(filled[T]())).Elem(), func(reflect.Value) { n++ })
	for i := range n {
		x := filled[T]()
		y := copied(x)
		if got := fmt.Sprintf("%+v", y); got != want || !same(x, y) || !same(y, x) {
			t.Fatalf("%s: a copy is not the same: %s", name, got)
		}
		k := 0
		parts(reflect.ValueOf(&y).Elem(), func(v reflect.Value) {
			if k == i {
				v.SetZero()
			}
			k++
		})
		if got := fmt.Sprintf("%+v", x); got != want {
			t.Fatalf("%s: part %d is that of the copy", name, i)
		}
		if got := fmt.Sprintf("%+v", y); got == want || same(x, y) || same(y, x) {
			t.Fatalf("%s: part %d counts for nothing", name, i)
		}
	}
	var none T
	if x := copied(none); !same(none, x) || !same(x, none) {
		t.Errorf("%s: nothing is not the same as nothing", name)
	}
}

// P8.2, P10.1, Z2, Z5
func TestCopies(t *testing.T) {
	each(t, "node", CopyNode, SameNode)
	each(t, "policy", CopyPolicy, SamePolicy)
	each(t, "setting", CopySetting, SameSetting)
	each(t, "step", CopyStep, func(x, y api.Step) bool { return fmt.Sprint(x) == fmt.Sprint(y) })
}
