package codec

import "franking/api"

// reader reads values; rest is what remains to be read.
type reader struct{ rest []byte }

// wrong is the panic of a reader at bytes that are no encoding.
type wrong struct{}

// Decode returns the value of an encoding.
func Decode(b []byte) (v api.Value, e api.Errno) {
	defer func() {
		if p := recover(); p != nil {
			v, e = api.Value{}, api.ErrCode
		}
	}()
	r := &reader{rest: b}
	v = readValue(r, api.MaxDepth)
	if len(r.rest) > 0 {
		panic(wrong{})
	}
	return v, api.OK
}

// take returns the next n bytes. What remains keeps its end, so that nothing behind it is ever touched.
func (r *reader) take(n int) []byte {
	if n > len(r.rest) {
		panic(wrong{})
	}
	b := r.rest[:n:n]
	r.rest = r.rest[n:len(r.rest):len(r.rest)]
	return b
}

// numeral reads a numeral; superfluous digits, and digits beyond 64 bits, are wrong.
func (r *reader) numeral() uint64 {
	u := uint64(0)
	for shift := 0; ; shift += 7 {
		d := r.take(1)[0]
		if shift == 63 && d > 1 || d == 0 && shift > 0 {
			panic(wrong{})
		}
		u |= uint64(d&127) << shift
		if d < 128 {
			return u
		}
	}
}

// length reads a numeral that counts parts of which each one takes at least so many bytes.
func (r *reader) length(least int) int {
	u := r.numeral()
	if u > uint64(len(r.rest)/least) {
		panic(wrong{})
	}
	return int(u)
}

// readValue reads a value in which lists are nested at most so deeply.
func readValue(r *reader, depth int) api.Value {
	kind := int(r.take(1)[0])
	if !known(kind) {
		panic(wrong{})
	}
	return forms()[kind].read(r, depth)
}

func readInt(r *reader, depth int) api.Value {
	return api.Value{Kind: api.IntV, N: signed(r.numeral())}
}

func readText(r *reader, depth int) api.Value {
	return api.Value{Kind: api.TextV, S: string(r.take(r.length(1)))}
}

func readList(r *reader, depth int) api.Value {
	if depth == 0 {
		panic(wrong{})
	}
	// The list grows as it is read: a numeral alone must not take memory.
	v := api.Value{Kind: api.ListV}
	for range r.length(2) {
		v.L = append(v.L, readValue(r, depth-1))
	}
	return v
}
