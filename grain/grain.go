// Package grain: numbers in bytes, float32 by its bits, checked whole numbers, sums: see doc/01-grain.md.
package grain

import "sluice/api"

// Put lays a number down, the lowest byte first (P1.1).
func Put(b []byte, at, width int, v uint64) api.Errno {
	if err := room(b, at, width); err != api.OK {
		return err
	}
	if v>>(8*width) != 0 {
		return api.ErrFit
	}
	lay(b[at:at+width], v)
	return api.OK
}

// Get reads what Put laid (P1.2).
func Get(b []byte, at, width int) (uint64, api.Errno) {
	if err := room(b, at, width); err != api.OK {
		return 0, err
	}
	var v uint64
	for i := range width {
		v |= uint64(b[at+i]) << (8 * i)
	}
	return v, api.OK
}

// PutInt lays a number with a sign down (P1.3).
func PutInt(b []byte, at, width int, v int64) api.Errno {
	if err := room(b, at, width); err != api.OK {
		return err
	}
	if above := v >> (8*width - 1); above != 0 && above != -1 {
		return api.ErrFit
	}
	lay(b[at:at+width], uint64(v))
	return api.OK
}

// GetInt reads what PutInt laid (P1.3).
func GetInt(b []byte, at, width int) (int64, api.Errno) {
	v, err := Get(b, at, width)
	if err != api.OK {
		return 0, err
	}
	unused := 64 - 8*width
	return int64(v<<unused) >> unused, api.OK
}

// room tells whether a number of this width can lie at this place. The place is never added to: it may be any number.
func room(b []byte, at, width int) api.Errno {
	if width < 1 || width > 8 {
		return api.ErrWidth
	}
	if at < 0 || at > len(b)-width {
		return api.ErrShort
	}
	return api.OK
}

// lay fills b with the low bytes of v.
func lay(b []byte, v uint64) {
	for i := range b {
		b[i] = byte(v >> (8 * i))
	}
}
