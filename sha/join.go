package sha

// Join returns the joined form of the parts: how many there are, then the length and the bytes of each.
func Join(parts ...[]byte) []byte {
	size := numberBytes
	for _, p := range parts {
		size += numberBytes + len(p)
	}
	b := appendNumber(make([]byte, 0, size), uint64(len(parts)))
	for _, p := range parts {
		b = appendNumber(b, uint64(len(p)))
		b = append(b, p...)
	}
	return b
}

// Split returns the parts whose joined form is b, and true; or false if b is no joined form.
func Split(b []byte) ([][]byte, bool) {
	count, rest, ok := takeNumber(b)
	if !ok {
		return nil, false
	}
	// The count may be a lie, so room is made only for parts that are there.
	var parts [][]byte
	for range count {
		var part []byte
		part, rest, ok = takePart(rest)
		if !ok {
			return nil, false
		}
		parts = append(parts, part)
	}
	if len(rest) > 0 {
		return nil, false
	}
	return parts, true
}

// Of returns the digest of the joined form of the parts.
func Of(parts ...[]byte) Digest {
	return Sum(Join(parts...))
}

// takePart takes the first part's length and bytes off b; the part is a copy, so that it shares no memory with b.
func takePart(b []byte) (part, rest []byte, ok bool) {
	n, rest, ok := takeNumber(b)
	if !ok || n > uint64(len(rest)) {
		return nil, nil, false
	}
	return append([]byte(nil), rest[:n]...), rest[n:], true
}

// takeNumber takes a number of 8 bytes off the front of b.
func takeNumber(b []byte) (n uint64, rest []byte, ok bool) {
	if len(b) < numberBytes {
		return 0, nil, false
	}
	for _, x := range b[:numberBytes] {
		n = n<<8 | uint64(x)
	}
	return n, b[numberBytes:], true
}
