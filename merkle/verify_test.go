package merkle_test

import (
	"fmt"
	"math"
	"math/rand"
	"strings"
	"testing"

	"touchmark/api"
	"touchmark/merkle"
	"touchmark/sha"
)

// wantVerify holds an answer of Verify against an error and entries.
func wantVerify(t *testing.T, root sha.Digest, s span, p []byte, e api.Errno, want ...merkle.Entry) {
	t.Helper()
	got, ge := merkle.Verify(root, []byte(s.from), []byte(s.to), s.end, p)
	if ge != e || told(got) != told(want) {
		t.Errorf("Verify %+v of %.300q: %s, %d, want %s, %d", s, p, told(got), ge, told(want), e)
	}
}

// part is a tree within a proof: an empty one, a pruned one or a node, by its kind.
type part struct {
	kind        byte
	digest      string // of a pruned one
	key         string
	count       int64
	left, right *part
}

func empty() *part { return &part{} }

func pruned(digest string) *part { return &part{kind: 1, digest: digest} }

func node(left *part, key string, count int64, right *part) *part {
	return &part{kind: 2, left: left, key: key, count: count, right: right}
}

func leaf(key string) *part { return node(empty(), key, 1, empty()) }

// sum is the digest of a part.
func (p *part) sum() string {
	switch p.kind {
	case 0:
		return digestOf("empty")
	case 1:
		return p.digest
	}
	return nodeDigest(p.left.sum(), p.key, p.count, p.right.sum())
}

func (p *part) root() sha.Digest { return sha.Digest([]byte(p.sum())) }

func (p *part) bytes() string {
	var b strings.Builder
	p.write(&b)
	return b.String()
}

func (p *part) write(b *strings.Builder) {
	b.WriteByte(p.kind)
	b.WriteString(p.digest)
	if p.kind == 2 {
		p.left.write(b)
		b.Write(number(int64(len(p.key)))[6:])
		b.WriteString(p.key)
		b.Write(number(p.count))
		p.right.write(b)
	}
}

// entries are those of the part's nodes, from left to right.
func (p *part) entries() []merkle.Entry {
	var l []merkle.Entry
	p.gather(&l)
	return l
}

func (p *part) gather(l *[]merkle.Entry) {
	if p.kind == 2 {
		p.left.gather(l)
		*l = append(*l, merkle.Entry{Key: []byte(p.key), Count: p.count})
		p.right.gather(l)
	}
}

// hides returns whether a pruned part is not outside a range.
func (p *part) hides(s span, at bounds) bool {
	switch p.kind {
	case 0:
		return false
	case 1:
		return !at.outside(s)
	}
	return p.left.hides(s, at.left(p.key)) || p.right.hides(s, at.right(p.key))
}

// parse reads a part that is nested in so many others, and returns what is left; the first error is thrown.
func parse(b string, nested int) (*part, string) {
	need := func(n int) string {
		if len(b) < n {
			panic(api.ErrShort)
		}
		taken := b[:n]
		b = b[n:]
		return taken
	}
	if nested > 4096 {
		panic(api.ErrDeep)
	}
	p := &part{kind: need(1)[0]}
	switch {
	case p.kind > 2:
		panic(api.ErrForm)
	case p.kind == 1:
		p.digest = need(32)
	case p.kind == 2:
		p.left, b = parse(b, nested+1)
		size := need(2)
		p.key = need(int(size[0])*256 + int(size[1]))
		for _, x := range []byte(need(8)) {
			p.count = p.count*256 + int64(x)
		}
		if p.count < 1 {
			panic(api.ErrForm)
		}
		p.right, b = parse(b, nested+1)
	}
	return p, b
}

// parsed reads a whole proof.
func parsed(b string) (p *part, e api.Errno) {
	defer func() {
		if thrown := recover(); thrown != nil {
			p, e = nil, thrown.(api.Errno)
		}
	}()
	p, rest := parse(b, 0)
	if rest != "" {
		return nil, api.ErrRest
	}
	return p, api.OK
}

// verified is what Verify must answer, by the chapter's words.
func verified(root sha.Digest, s span, b string) ([]merkle.Entry, api.Errno) {
	p, e := parsed(b)
	if e != api.OK {
		return nil, e
	}
	l := p.entries()
	for i := 1; i < len(l); i++ {
		if string(l[i-1].Key) >= string(l[i].Key) {
			return nil, api.ErrOrder
		}
	}
	if p.hides(s, bounds{}) {
		return nil, api.ErrProof
	}
	if p.root() != root {
		return nil, api.ErrDigest
	}
	return within(l, s), api.OK
}

// P7.3: what is wrong with single proofs. The root is the proof's own wherever there is one.
func TestVerifyErrors(t *testing.T) {
	d := strings.Repeat("d", 32)
	b := leaf("b").bytes()
	for _, c := range []struct {
		name string
		s    span
		p    string
		e    api.Errno
	}{
		{"nothing", span{}, "", api.ErrShort},
		{"a pruned tree without its digest", span{}, "\x01", api.ErrShort},
		{"a pruned tree with 31 bytes", span{"", "", true}, "\x01" + d[1:], api.ErrShort},
		{"a node and no more", span{}, "\x02", api.ErrShort},
		{"a node without a length", span{}, "\x02\x00", api.ErrShort},
		{"a node with half a length", span{}, "\x02\x00\x00", api.ErrShort},
		{"a node with half a key", span{}, "\x02\x00\x00\x02k", api.ErrShort},
		{"a node whose key's length has another high byte", span{}, strings.Replace(b, "\x00\x01b", "\x01\x01b", 1), api.ErrShort},
		{"a node with half a count", span{}, b[:8], api.ErrShort},
		{"a node with half a count that is negative", span{}, b[:5] + "\xff\xff\xff\xff\xff\xff\xff", api.ErrShort},
		{"a node without its right subtree", span{}, b[:len(b)-1], api.ErrShort},
		{"a byte 3", span{}, "\x03", api.ErrForm},
		{"a byte 255", span{}, "\xff", api.ErrForm},
		{"a byte 3 on the left, and no more", span{}, "\x02\x03", api.ErrForm},
		{"a byte 3 on the right", span{}, b[:len(b)-1] + "\x03", api.ErrForm},
		{"a count of 0", span{}, node(empty(), "b", 0, empty()).bytes(), api.ErrForm},
		{"a count of -1", span{}, node(empty(), "b", -1, empty()).bytes(), api.ErrForm},
		{"the least count", span{}, node(empty(), "b", math.MinInt64, empty()).bytes(), api.ErrForm},
		{"a count of 0, and no more", span{}, b[:5] + strings.Repeat("\x00", 8), api.ErrForm},
		{"a byte behind", span{}, b + "\x00", api.ErrRest},
		{"a proof behind", span{}, b + b, api.ErrRest},
		{"a byte behind an empty tree", span{}, "\x00\x00", api.ErrRest},
		{"a byte 3 behind", span{}, "\x00\x03", api.ErrRest},
		{"a greater key on the left", span{}, node(leaf("c"), "b", 1, empty()).bytes(), api.ErrOrder},
		{"a less key on the right", span{}, node(empty(), "b", 1, leaf("a")).bytes(), api.ErrOrder},
		{"the same key on the left", span{}, node(leaf("b"), "b", 1, empty()).bytes(), api.ErrOrder},
		{"the same key on the right", span{}, node(empty(), "b", 1, leaf("b")).bytes(), api.ErrOrder},
		{"the empty key twice", span{}, node(empty(), "", 1, leaf("")).bytes(), api.ErrOrder},
		{"a key on the left that is greater than the root", span{}, node(node(empty(), "a", 1, leaf("c")), "b", 1, leaf("d")).bytes(), api.ErrOrder},
		{"a key on the right that is less than the root", span{}, node(leaf("a"), "b", 1, node(leaf("aa"), "c", 1, empty())).bytes(), api.ErrOrder},
		{"keys out of order that are outside the range", span{"x", "y", true}, node(leaf("b"), "b", 1, empty()).bytes(), api.ErrOrder},
		{"all pruned", span{}, "\x01" + d, api.ErrProof},
		{"all pruned, with an end", span{"", "a", true}, "\x01" + d, api.ErrProof},
		{"all pruned, with the least range", span{"", "\x00", true}, "\x01" + d, api.ErrProof},
		{"pruned on the left", span{"a", "", false}, node(pruned(d), "b", 1, empty()).bytes(), api.ErrProof},
		{"pruned on the left, where the range may end", span{"a", "b", true}, node(pruned(d), "b", 1, empty()).bytes(), api.ErrProof},
		{"pruned on the right", span{"c", "", false}, node(empty(), "b", 1, pruned(d)).bytes(), api.ErrProof},
		{"pruned on the right, where the range has an end", span{"a", "b\x00", true}, node(empty(), "b", 1, pruned(d)).bytes(), api.ErrProof},
		{"pruned between", span{"b", "c", true}, node(empty(), "b", 1, node(pruned(d), "d", 1, empty())).bytes(), api.ErrProof},
		{"pruned between, on the other side", span{"c", "d", true}, node(node(empty(), "b", 1, pruned(d)), "d", 1, empty()).bytes(), api.ErrProof},
		{"pruned on the left of all", span{"", "", false}, node(node(pruned(d), "b", 1, empty()), "d", 1, empty()).bytes(), api.ErrProof},
		{"pruned on the right of all", span{"x", "", false}, node(empty(), "b", 1, node(empty(), "d", 1, pruned(d))).bytes(), api.ErrProof},
	} {
		root := sha.Digest([]byte(d))
		if p, e := parsed(c.p); e == api.OK {
			root = p.root()
		}
		if _, e := verified(root, c.s, c.p); e != c.e {
			t.Fatalf("%s: the model's answer is %d, want %d", c.name, e, c.e)
		}
		t.Run(c.name, func(t *testing.T) { wantVerify(t, root, c.s, []byte(c.p), c.e) })
	}
}

// P7.3: of several errors, the one that the chapter lists first, or that is read first.
func TestVerifyFirstError(t *testing.T) {
	d := strings.Repeat("d", 32)
	deep := strings.Repeat("\x02", 4097)
	zero := node(empty(), "b", 0, empty()).bytes()
	unordered := node(pruned(d), "b", 1, leaf("a"))
	for _, c := range []struct {
		name string
		p    string
		e    api.Errno
	}{
		{"too deep, and at the end", deep, api.ErrDeep},
		{"too deep, and no tree's byte", deep + "\x03", api.ErrDeep},
		{"as deep as may be, and at the end", deep[1:], api.ErrShort},
		{"as deep as may be, and no tree's byte", deep[1:] + "\x03", api.ErrForm},
		{"no tree's byte, and too deep behind it", "\x02\x03" + deep, api.ErrForm},
		{"a count of 0, and too deep behind it", "\x02" + zero[1:len(zero)-1] + deep, api.ErrForm},
		{"too deep, and no tree's byte behind it", deep + "\x03\x03", api.ErrDeep},
		{"a count of 0, and no tree's byte behind it", zero[:len(zero)-1] + "\x03", api.ErrForm},
		{"a count of 0, and the end", zero[:len(zero)-1], api.ErrForm},
		{"a byte behind, out of order", unordered.bytes() + "\x00", api.ErrRest},
		{"out of order, and pruned", unordered.bytes(), api.ErrOrder},
		{"pruned, and of another root", node(pruned(d), "b", 1, empty()).bytes(), api.ErrProof},
		{"of another root", node(empty(), "b", 1, empty()).bytes(), api.ErrDigest},
		{"empty, and of another root", "\x00", api.ErrDigest},
	} {
		t.Run(c.name, func(t *testing.T) { wantVerify(t, sha.Digest{}, span{}, []byte(c.p), c.e) })
	}
	wantVerify(t, sha.Digest{}, span{"", "", true}, []byte("\x01"+d), api.ErrDigest)
	wantVerify(t, sha.Digest([]byte(d)), span{"", "", true}, []byte("\x01"+d), api.OK)
}

// P7.3: proofs that nobody's Prove returns, but which are accepted: pruned less than can be, pruned parts with any digests, nodes where their ranks would not put them.
func TestVerifyTakesOthers(t *testing.T) {
	d := strings.Repeat("d", 32)
	all := []merkle.Entry{{Key: []byte("b"), Count: 1}, {Key: []byte("d"), Count: 2}}
	chains := []*part{
		node(empty(), "b", 1, node(empty(), "d", 2, empty())),
		node(node(empty(), "b", 1, empty()), "d", 2, empty()),
	}
	for _, p := range chains {
		for _, s := range []span{{}, {"b", "e", true}, {"b", "", false}, {"c", "", false}, {"", "d", true}, {"d", "b", true}, {"b", "b", true}} {
			wantVerify(t, p.root(), s, []byte(p.bytes()), api.OK, within(all, s)...)
		}
	}
	for _, c := range []struct {
		p *part
		s span
		n int
	}{
		{pruned(d), span{"x", "x", true}, 0},
		{pruned(d), span{"x", "a", true}, 0},
		{node(pruned(d), "b", 1, empty()), span{"b", "", false}, 1},
		{node(pruned(d), "b", 1, empty()), span{"x", "", false}, 0},
		{node(empty(), "b", 1, pruned(d)), span{"", "b", true}, 0},
		{node(empty(), "b", 1, pruned(d)), span{"", "a", true}, 0},
		{node(pruned(d), "b", 1, pruned(d)), span{"b", "b", true}, 0},
		{node(node(pruned(d), "b", 1, pruned(d)), "d", 1, empty()), span{"d", "", false}, 1},
		{node(empty(), "b", 1, node(pruned(d), "d", 1, pruned(d))), span{"", "b", true}, 0},
		{node(leaf("b"), "d", 1, node(pruned(d), "f", 1, pruned(d))), span{"b", "d", true}, 1},
	} {
		wantVerify(t, c.p.root(), c.s, []byte(c.p.bytes()), api.OK, within(c.p.entries(), c.s)...)
		if n := len(within(c.p.entries(), c.s)); n != c.n {
			t.Errorf("%d entries, want %d", n, c.n)
		}
	}
}

// chain is a tree of so many nodes, each in the one before it; way tells to which side the next one hangs.
func chain(n int, way func(i int) bool) *part {
	low, high := 0, n
	sides := make([]bool, n)
	keys := make([]int, n)
	for i := range n {
		sides[i] = way(i)
		if sides[i] {
			keys[i] = low
			low++
		} else {
			high--
			keys[i] = high
		}
	}
	p := empty()
	for i := n - 1; i >= 0; i-- {
		key := fmt.Sprintf("%06d", keys[i])
		if sides[i] {
			p = node(empty(), key, int64(i+1), p)
		} else {
			p = node(p, key, int64(i+1), empty())
		}
	}
	return p
}

// P7.3: a tree may be nested in 4096 others, and not in more.
func TestVerifyDepth(t *testing.T) {
	d := strings.Repeat("d", 32)
	for name, way := range map[string]func(int) bool{
		"right":  func(int) bool { return true },
		"left":   func(int) bool { return false },
		"zigzag": func(i int) bool { return i%2 == 0 },
	} {
		p := chain(4096, way)
		wantVerify(t, p.root(), span{}, []byte(p.bytes()), api.OK, p.entries()...)
		wantVerify(t, sha.Digest{}, span{}, []byte(p.bytes()), api.ErrDigest)
		q := chain(4097, way)
		wantVerify(t, q.root(), span{}, []byte(q.bytes()), api.ErrDeep)
		if _, _, ok := merkle.Clash([]byte(p.bytes()), []byte(q.bytes())); ok {
			t.Errorf("%s: a clash", name)
		}
	}
	// A pruned tree has a place among those that are nested, too.
	last := func(n int) *part {
		p := pruned(d)
		for i := range n {
			p = node(p, fmt.Sprintf("%06d", i), 1, empty())
		}
		return p
	}
	s := span{from: "000000"}
	wantVerify(t, last(4096).root(), s, []byte(last(4096).bytes()), api.OK, last(4096).entries()...)
	wantVerify(t, last(4097).root(), s, []byte(last(4097).bytes()), api.ErrDeep)
}

// P7.3: a proof that is cut anywhere is too short, and one with a bit turned proves nothing else.
func TestVerifyEachBit(t *testing.T) {
	x := build(t, numbered("a", "b", "ba", "c", "d", "e", "f", "g"))
	for _, s := range []span{{}, {"b", "d", true}, {"bb", "bc", true}, {"d", "b", true}, {"h", "z", true}} {
		p := prove(x, s)
		for n := range len(p) {
			// Spare capacity holds the rest: it must not be read.
			wantVerify(t, x.Root(), s, []byte(p)[:n], api.ErrShort)
		}
		for i := range len(p) * 8 {
			q := []byte(p)
			q[i/8] ^= 1 << (i % 8)
			l, e := verified(x.Root(), s, string(q))
			if e == api.OK {
				t.Errorf("%+v: bit %d can be turned", s, i)
			}
			wantVerify(t, x.Root(), s, q, e, l...)
		}
		root := x.Root()
		for i := range root {
			root[i] ^= 0x80
			wantVerify(t, root, s, []byte(p), api.ErrDigest)
			root[i] ^= 0x80
		}
	}
}

// randomPart is a part with keys that are mostly in order, some pruned parts, and few counts that may not be.
func randomPart(r *rand.Rand, keys []string) *part {
	if len(keys) == 0 || r.Intn(12) == 0 {
		if r.Intn(3) == 0 {
			return pruned(strings.Repeat(string(rune('a'+r.Intn(3))), 32))
		}
		return empty()
	}
	i := r.Intn(len(keys))
	count := int64(1 + r.Intn(3))
	if r.Intn(60) == 0 {
		count = int64(r.Intn(2) - 1)
	}
	return node(randomPart(r, keys[:i]), keys[i], count, randomPart(r, keys[i+1:]))
}

// randomKeys are keys that are in order, or now and then are not.
func randomKeys(r *rand.Rand) []string {
	var keys []string
	for _, x := range entriesOf(randomMap(r, r.Intn(12))) {
		keys = append(keys, string(x.Key))
	}
	if len(keys) > 1 && r.Intn(6) == 0 {
		i, j := r.Intn(len(keys)), r.Intn(len(keys))
		keys[i] = keys[j]
	}
	return keys
}

// P7.3: random proofs, whole, cut, followed by more, or changed in one byte, against the chapter's words.
func TestVerifyRandom(t *testing.T) {
	seen := map[api.Errno]int{}
	for seed := range int64(20000) {
		r := rand.New(rand.NewSource(seed))
		p := randomPart(r, randomKeys(r))
		b, root := p.bytes(), p.root()
		switch r.Intn(12) {
		case 0:
			b = b[:r.Intn(len(b))]
		case 1:
			b += string(rune(r.Intn(4)))
		case 2:
			i := r.Intn(len(b))
			b = b[:i] + string([]byte{byte(r.Intn(5))}) + b[i+1:]
		case 3:
			root[r.Intn(32)] ^= 1
		}
		s := randomSpan(r)
		l, e := verified(root, s, b)
		wantVerify(t, root, s, []byte(b), e, l...)
		seen[e]++
	}
	for _, e := range []api.Errno{api.OK, api.ErrShort, api.ErrForm, api.ErrRest, api.ErrOrder, api.ErrProof, api.ErrDigest} {
		if seen[e] < 50 {
			t.Errorf("error %d came %d times only", e, seen[e])
		}
	}
}

// R1: any bytes are answered.
func TestVerifyAnyBytes(t *testing.T) {
	r := rand.New(rand.NewSource(1))
	for range 20000 {
		b := make([]byte, r.Intn(60))
		for i := range b {
			b[i] = byte(r.Intn(4))
			if r.Intn(3) == 0 {
				b[i] = 2
			}
		}
		s := randomSpan(r)
		l, e := verified(sha.Digest{}, s, string(b))
		wantVerify(t, sha.Digest{}, s, b, e, l...)
	}
}
