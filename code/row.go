package code

import "touchmark/api"

// Row returns the row whose key is b; otherwise the first error, and the offset at which the erroneous value begins.
func Row(b []byte) (api.Row, api.Errno, int) {
	var row api.Row
	for at := 0; at < len(b); {
		v, size, e := firstValue(b[at:])
		if e != api.OK {
			return nil, e, at
		}
		row = append(row, v)
		at += size
	}
	return row, api.OK, 0
}

// firstValue decodes the value whose key b begins with, and tells the size of that key; b is not empty.
func firstValue(b []byte) (v api.Value, size int, e api.Errno) {
	v.Kind = int(b[0]) - 1
	var used int
	switch b[0] {
	case tag(api.Null):
	case tag(api.Int):
		v.N, used, e = firstInt(b[1:])
	case tag(api.Text):
		v.S, used, e = firstText(b[1:])
	case tag(api.Bool):
		v.N, used, e = firstBool(b[1:])
	default:
		e = api.ErrForm
	}
	if e != api.OK {
		return api.Value{}, 0, e
	}
	return v, 1 + used, api.OK
}

func firstInt(b []byte) (n int64, used int, e api.Errno) {
	if len(b) < numberBytes {
		return 0, 0, api.ErrShort
	}
	return int64(number(b) - signBit), numberBytes, api.OK
}

func firstBool(b []byte) (n int64, used int, e api.Errno) {
	if len(b) == 0 {
		return 0, 0, api.ErrShort
	}
	if b[0] > 1 {
		return 0, 0, api.ErrForm
	}
	return int64(b[0]), 1, api.OK
}

func firstText(b []byte) (text string, used int, e api.Errno) {
	var s []byte
	for i := 0; i < len(b); i++ {
		x := b[i]
		if x == 0 {
			// Whether this byte is one of the text's, and so makes it too long, only the next one tells.
			i++
			if i == len(b) {
				return "", 0, api.ErrShort
			}
			if b[i] == textEnds {
				return string(s), i + 1, api.OK
			}
			if b[i] != textGoesOn {
				return "", 0, api.ErrForm
			}
		}
		if len(s) == api.MaxText {
			return "", 0, api.ErrForm
		}
		s = append(s, x)
	}
	return "", 0, api.ErrShort
}
