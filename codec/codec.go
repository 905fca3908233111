// Package codec encodes values canonically. See shared/doc/01-codec.md.
package codec

import "franking/api"

// kinds is one more than the greatest kind of a value.
const kinds = api.ListV + 1

// form says how the values of one kind look, and how they are written and read.
type form struct {
	clean func(v api.Value) bool
	write func(b []byte, v api.Value) []byte
	size  func(v api.Value) int
	read  func(r *reader, depth int) api.Value
}

// forms returns the forms of all kinds; kinds that do not exist have the zero form.
func forms() [kinds]form {
	return [kinds]form{
		api.IntV:  {clean: cleanInt, write: writeInt, size: sizeInt, read: readInt},
		api.TextV: {clean: cleanText, write: writeText, size: sizeText, read: readText},
		api.ListV: {clean: cleanList, write: writeList, size: sizeList, read: readList},
	}
}

// Check validates a value.
func Check(v api.Value) (e api.Errno) {
	if !wellFormed(v) {
		return api.ErrArg
	}
	if depth(v) > api.MaxDepth {
		return api.ErrLimit
	}
	return api.OK
}

// Encode returns the encoding of a value.
func Encode(v api.Value) (b []byte, e api.Errno) {
	if e = Check(v); e != api.OK {
		return nil, e
	}
	return writeValue(make([]byte, 0, sizeValue(v)), v), api.OK
}

// Size returns the length of the encoding of a value.
func Size(v api.Value) (n int, e api.Errno) {
	if e = Check(v); e != api.OK {
		return 0, e
	}
	return sizeValue(v), api.OK
}

// Same reports whether two values are equal.
func Same(a, b api.Value) (same bool) {
	if a.Kind != b.Kind || a.N != b.N || a.S != b.S || len(a.L) != len(b.L) {
		return false
	}
	for i, x := range a.L {
		if !Same(x, b.L[i]) {
			return false
		}
	}
	return true
}

// known reports whether there is a kind of values with this number.
func known(kind int) bool { return kind >= api.IntV && kind <= api.ListV }

func wellFormed(v api.Value) bool { return known(v.Kind) && forms()[v.Kind].clean(v) }

func cleanInt(v api.Value) bool { return v.S == "" && len(v.L) == 0 }

func cleanText(v api.Value) bool { return v.N == 0 && len(v.L) == 0 }

func cleanList(v api.Value) bool {
	if v.N != 0 || v.S != "" {
		return false
	}
	for _, x := range v.L {
		if !wellFormed(x) {
			return false
		}
	}
	return true
}

// depth returns how deeply lists are nested in a value.
func depth(v api.Value) int {
	if v.Kind != api.ListV {
		return 0
	}
	n := 0
	for _, x := range v.L {
		n = max(n, depth(x))
	}
	return n + 1
}
