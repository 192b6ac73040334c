package verdict_test

import (
	"math"
	"reflect"
	"strconv"

	"switchyard/api"
)

// leaves calls f for each number, flag, text and list that a value has, be it in a list. It may set them, but a list only till it returns.
func leaves(path string, v reflect.Value, f func(path string, x reflect.Value)) {
	switch v.Kind() {
	case reflect.Struct:
		for i := range v.NumField() {
			leaves(path+"."+v.Type().Field(i).Name, v.Field(i), f)
		}
	case reflect.Slice:
		f(path, v)
		fallthrough
	case reflect.Array:
		for i := range v.Len() {
			leaves(path+"["+strconv.Itoa(i)+"]", v.Index(i), f)
		}
	default:
		f(path, v)
	}
}

// others are values that differ from one, of its type: of a list one element more, and one less.
func others(x reflect.Value) []reflect.Value {
	var l []reflect.Value
	add := func(v any) { l = append(l, reflect.ValueOf(v).Convert(x.Type())) }
	switch x.Kind() {
	case reflect.Bool:
		add(!x.Bool())
	case reflect.Uint8:
		add(byte(x.Uint() + 1))
		add(byte(x.Uint() ^ 0x80))
	case reflect.Int:
		for _, n := range []int64{x.Int() + 1, x.Int() - 1, x.Int() ^ 256, x.Int() + 1<<16, x.Int() ^ 1<<32, ^x.Int(), math.MinInt64, math.MaxInt64} {
			add(n)
		}
	case reflect.String:
		add(x.String() + "x")
		add(x.String() + "\x00")
		add("\x00" + x.String())
		if x.Len() > 0 {
			add(x.String()[1:])
		}
	case reflect.Slice:
		more := reflect.MakeSlice(x.Type(), x.Len()+1, x.Len()+1)
		reflect.Copy(more, x)
		l = append(l, more)
		if x.Len() > 0 {
			l = append(l, x.Slice(0, x.Len()-1))
		}
	}
	return l
}

// changes calls f again and again while one thing in a verdict is another, and sets it right afterwards.
func changes(v *api.Verdict, f func(path string)) {
	leaves("Verdict", reflect.ValueOf(v).Elem(), func(path string, x reflect.Value) {
		before := reflect.ValueOf(x.Interface())
		for _, y := range others(before) {
			x.Set(y)
			f(path)
		}
		x.Set(before)
	})
}

// equal says whether two values are, by all that they have: lists that are nil and that are empty, too.
func equal(a, b reflect.Value) bool {
	same := true
	switch a.Kind() {
	case reflect.Struct:
		for i := range a.NumField() {
			same = same && equal(a.Field(i), b.Field(i))
		}
	case reflect.Slice, reflect.Array:
		same = a.Len() == b.Len()
		for i := 0; same && i < a.Len(); i++ {
			same = equal(a.Index(i), b.Index(i))
		}
	default:
		same = a.Interface() == b.Interface()
	}
	return same
}

// equals is equal of two verdicts.
func equals(a, b api.Verdict) bool { return equal(reflect.ValueOf(a), reflect.ValueOf(b)) }

// fill sets all numbers and texts to other ones, from a number on, and gives all lists so many elements.
func fill(v reflect.Value, elements int, n *int) {
	switch v.Kind() {
	case reflect.Struct:
		for i := range v.NumField() {
			fill(v.Field(i), elements, n)
		}
	case reflect.Slice:
		v.Set(reflect.MakeSlice(v.Type(), elements, elements))
		fallthrough
	case reflect.Array:
		for i := range v.Len() {
			fill(v.Index(i), elements, n)
		}
	case reflect.Bool:
		v.SetBool(*n%2 == 0)
	case reflect.Uint8:
		v.SetUint(uint64(byte(*n)))
	case reflect.Int:
		v.SetInt(int64(*n))
	case reflect.String:
		v.SetString("text " + strconv.Itoa(*n))
	}
	*n++
}

// filled is a verdict that has something everywhere, and so many elements in each list.
func filled(elements int) (v api.Verdict) {
	n := 1
	fill(reflect.ValueOf(&v).Elem(), elements, &n)
	return v
}

// copied is a verdict with memory of its own.
func copied(v api.Verdict) api.Verdict {
	changed := reflect.ValueOf(&v).Elem()
	leaves("Verdict", changed, func(_ string, x reflect.Value) {
		if x.Kind() == reflect.Slice {
			l := reflect.MakeSlice(x.Type(), x.Len(), x.Len())
			reflect.Copy(l, x)
			x.Set(l)
		}
	})
	return v
}
