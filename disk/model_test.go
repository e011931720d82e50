package disk_test

import (
	"bytes"
	"math/rand"
	"testing"

	"touchmark/api"
	"touchmark/disk"
)

// model is the chapter's disk word by word: the contents of the last Sync, and the writes since then, which every read goes through again.
type model struct {
	synced   [][]byte
	writes   []modelWrite
	capacity int
	fuse     int
	armed    bool
	down     bool
}

type modelWrite struct {
	n int
	b []byte
}

func newModel(blocks int) *model {
	m := &model{capacity: blocks}
	for range blocks {
		m.synced = append(m.synced, make([]byte, 256))
	}
	return m
}

// now is the contents as they are read.
func (m *model) now() [][]byte {
	var all [][]byte
	for _, b := range m.synced {
		all = append(all, bytes.Clone(b))
	}
	for _, w := range m.writes {
		copy(all[w.n], w.b)
	}
	return all
}

func (m *model) operate() bool {
	if !m.down && m.armed && m.fuse == 0 {
		m.down, m.armed = true, false
	}
	if !m.down && m.armed {
		m.fuse--
	}
	return !m.down
}

func (m *model) write(n int, b disk.Block) api.Errno {
	switch {
	case !m.operate():
		return api.ErrDown
	case n < 0 || n >= len(m.synced):
		return api.ErrRange
	case n >= m.capacity:
		return api.ErrFull
	}
	m.writes = append(m.writes, modelWrite{n, b[:]})
	return api.OK
}

func (m *model) sync() api.Errno {
	if !m.operate() {
		return api.ErrDown
	}
	m.synced, m.writes = m.now(), nil
	return api.OK
}

func (m *model) up(keep []bool, torn int) {
	var kept []modelWrite
	for i, w := range m.writes {
		if i < len(keep) && keep[i] {
			kept = append(kept, w)
		}
	}
	if len(kept) > 0 && torn >= 0 && torn <= 255 {
		last := &kept[len(kept)-1]
		last.b = last.b[:torn]
	}
	m.writes = kept
	m.synced, m.writes = m.now(), nil
	m.armed, m.down = false, false
}

func (m *model) copied() *model {
	c := *m
	c.synced = nil
	for _, b := range m.synced {
		c.synced = append(c.synced, bytes.Clone(b))
	}
	c.writes = append([]modelWrite(nil), m.writes...)
	return &c
}

// pair is a disk and the model of it.
type pair struct {
	d *disk.Disk
	m *model
}

// agree holds all that can be seen of a disk against its model.
func (p pair) agree(t *testing.T) {
	t.Helper()
	if p.d.Blocks() != len(p.m.synced) || p.d.Down() != p.m.down || p.d.Loose() != len(p.m.writes) {
		t.Fatalf("%d blocks, down %v, %d unsynced; want %d, %v, %d", p.d.Blocks(), p.d.Down(), p.d.Loose(), len(p.m.synced), p.m.down, len(p.m.writes))
	}
	for n, want := range p.m.now() {
		b, e := p.d.Read(n)
		if p.m.down && (e != api.ErrDown || b != disk.Block{}) || !p.m.down && (e != api.OK || !bytes.Equal(b[:], want)) {
			t.Fatalf("block %d: %d %v, want %v", n, e, b, want)
		}
	}
}

// randomBlock is a block of bytes of a few values.
func randomBlock(r *rand.Rand) disk.Block {
	var b disk.Block
	for i := range b {
		b[i] = byte(r.Intn(5))
	}
	return b
}

// step does one thing to a disk and its model.
func (p pair) step(t *testing.T, r *rand.Rand) {
	t.Helper()
	blocks := p.d.Blocks()
	switch k := r.Intn(20); {
	case k < 12:
		n, b := r.Intn(blocks+2)-1, randomBlock(r)
		wantErr(t, "Write", p.d.Write(n, b), p.m.write(n, b))
	case k < 14:
		wantErr(t, "Sync", p.d.Sync(), p.m.sync())
	case k < 15:
		n := r.Intn(blocks+4) - 2
		p.d.Room(n)
		p.m.capacity = max(n, 0)
	case k < 17:
		n := r.Intn(12) - 2
		p.d.Arm(n)
		p.m.fuse, p.m.armed = n, n >= 0
	default:
		if k < 19 && !p.d.Down() {
			return
		}
		keep, torn := bits(r.Int(), r.Intn(p.d.Loose()+3)), r.Intn(300)-20
		p.d.Up(keep, torn)
		p.m.up(keep, torn)
	}
}

// P2.1 to P2.7: random calls on disks and on copies of them, held against the model.
func TestRandomCalls(t *testing.T) {
	for seed := range 60 {
		r := rand.New(rand.NewSource(int64(seed)))
		blocks := 1 + r.Intn(6)
		pairs := []pair{{disk.New(blocks), newModel(blocks)}}
		for range 300 {
			i := r.Intn(len(pairs))
			p := pairs[i]
			if r.Intn(20) == 0 {
				c := pair{p.d.Copy(), p.m.copied()}
				if len(pairs) < 4 {
					pairs = append(pairs, c)
				} else {
					pairs[r.Intn(4)] = c
				}
			}
			p.step(t, r)
			for _, q := range pairs {
				q.agree(t)
			}
		}
	}
}

// randomLoss is a disk with synced contents and some unsynced writes; of each block, it tells what was synced, what is read, and which of the unsynced writes were of it.
func randomLoss(t *testing.T, r *rand.Rand) (d *disk.Disk, synced, now []disk.Block, writes [][]int) {
	t.Helper()
	const blocks = 5
	d = disk.New(blocks)
	synced, now, writes = make([]disk.Block, blocks), make([]disk.Block, blocks), make([][]int, blocks)
	for range r.Intn(12) {
		n := r.Intn(blocks)
		synced[n] = randomBlock(r)
		put(t, d, n, synced[n])
	}
	sync(t, d)
	copy(now, synced)
	for i := range r.Intn(12) {
		n := r.Intn(blocks)
		now[n] = randomBlock(r)
		put(t, d, n, now[n])
		writes[n] = append(writes[n], i)
	}
	return d, synced, now, writes
}

// P2.8: a block keeps its synced contents unless a later write of it survives; all kept is nothing lost; none kept is the last Sync.
func TestSyncedIsNeverLost(t *testing.T) {
	for seed := range 500 {
		r := rand.New(rand.NewSource(int64(seed)))
		d, synced, now, writes := randomLoss(t, r)
		if r.Intn(2) == 0 {
			d.Arm(0)
			wantErr(t, "Sync", d.Sync(), api.ErrDown)
		}
		none, all := d.Copy(), d.Copy()
		none.Up(nil, r.Intn(256))
		all.Up(bits(1<<12-1, d.Loose()), []int{-1, 256}[r.Intn(2)])
		wantBlocks(t, none, synced...)
		wantBlocks(t, all, now...)
		keep := bits(r.Int(), d.Loose())
		d.Up(keep, r.Intn(300)-20)
		for n, l := range writes {
			survives := false
			for _, i := range l {
				survives = survives || keep[i]
			}
			if !survives {
				wantRead(t, d, n, synced[n])
			}
		}
	}
}

// P2.1 to P2.7: the same as TestRandomCalls, from seeds that a fuzzer finds.
func FuzzCalls(f *testing.F) {
	f.Add(int64(1), 3)
	f.Fuzz(func(t *testing.T, seed int64, steps int) {
		r := rand.New(rand.NewSource(seed))
		p := pair{disk.New(4), newModel(4)}
		for range min(steps, 500) {
			p.step(t, r)
		}
		p.agree(t)
	})
}
