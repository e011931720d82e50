package page_test

import (
	"encoding/binary"
	"math/rand"
	"slices"
	"testing"

	"touchmark/api"
	"touchmark/disk"
	"touchmark/page"
)

// model is the chapter's pager word by word, over the bytes of all pages, the header first.
type model struct {
	size       int
	room       int // the disk's capacity
	saved, now []disk.Block
	records    []string
	homes      [][]disk.Block // for each page, what its home may have
}

// load is the model of what lies on a disk.
func load(t *testing.T, d *disk.Disk, size int) *model {
	t.Helper()
	m := &model{size: size, room: d.Blocks(), records: records(t, d, size)}
	for _, b := range contents(d)[size:] {
		m.saved = append(m.saved, b)
		m.homes = append(m.homes, []disk.Block{b})
	}
	for _, r := range m.records {
		m.replay(r)
	}
	m.abort()
	return m
}

// replay makes the pages of a record what they are there.
func (m *model) replay(record string) {
	for ; record != ""; record = record[264:] {
		n := binary.BigEndian.Uint64([]byte(record))
		m.saved[n] = block(record[8:264])
		m.homes[n] = append(m.homes[n], m.saved[n])
	}
}

func (m *model) number(i int) uint64 {
	return binary.BigEndian.Uint64(m.now[0][8*i:])
}

func (m *model) setNumber(i int, v uint64) {
	binary.BigEndian.PutUint64(m.now[0][8*i:], v)
}

func (m *model) has(n int) bool {
	return n > 0 && n < int(m.number(0))
}

func (m *model) get(n int) (disk.Block, api.Errno) {
	if !m.has(n) {
		return disk.Block{}, api.ErrRange
	}
	return m.now[n], api.OK
}

func (m *model) put(n int, b disk.Block) api.Errno {
	if !m.has(n) {
		return api.ErrRange
	}
	m.now[n] = b
	return api.OK
}

func (m *model) root(i int) uint64 {
	if i < 0 || i > 15 {
		return 0
	}
	return m.number(2 + i)
}

func (m *model) setRoot(i int, v uint64) api.Errno {
	if i < 0 || i > 15 {
		return api.ErrRange
	}
	m.setNumber(2+i, v)
	return api.OK
}

func (m *model) alloc() (int, api.Errno) {
	used, head := m.number(0), m.number(1)
	switch {
	case head > 0 && head < used:
		m.setNumber(1, binary.BigEndian.Uint64(m.now[head][:]))
		m.now[head] = disk.Block{}
		return int(head), api.OK
	case int(used) < len(m.now):
		m.setNumber(0, used+1)
		m.now[used] = disk.Block{}
		return int(used), api.OK
	}
	return 0, api.ErrFull
}

func (m *model) free(n int) api.Errno {
	if !m.has(n) {
		return api.ErrRange
	}
	m.now[n] = block(eight(m.number(1)))
	m.setNumber(1, uint64(n))
	return api.OK
}

// record is that of a Commit now, empty if no page is changed.
func (m *model) record() string {
	s := ""
	for n, b := range m.now {
		if b != m.saved[n] {
			s += entry(uint64(n), b)
		}
	}
	return s
}

func (m *model) changed() int {
	return len(m.record()) / 264
}

// end is where the log ends.
func (m *model) end() int {
	end := 0
	for _, r := range m.records {
		end += 8 + len(r)
	}
	return end
}

func (m *model) commit() api.Errno {
	record := m.record()
	if record == "" {
		return api.OK
	}
	e := api.OK
	if m.end()+8+len(record) > (m.size-2)*256 {
		e = m.checkpoint()
	}
	end := m.end() + 8 + len(record)
	if e == api.OK && (end > (m.size-2)*256 || 2+(end-1)/256 >= m.room) {
		e = api.ErrFull
	}
	if e != api.OK {
		m.abort()
		return e
	}
	m.records = append(m.records, record)
	m.replay(record)
	return api.OK
}

func (m *model) abort() {
	m.now = slices.Clone(m.saved)
}

// checkpoint leaves the marks out: there must be room for them.
func (m *model) checkpoint() api.Errno {
	in := map[uint64]int{}
	for _, r := range m.records {
		for ; r != ""; r = r[264:] {
			in[binary.BigEndian.Uint64([]byte(r))]++
		}
	}
	for n := range in {
		if m.size+int(n) >= m.room {
			return api.ErrFull
		}
	}
	for n := range in {
		m.homes[n] = []disk.Block{m.saved[n]}
	}
	m.records = nil
	return api.OK
}

// pair is a pager, its disk, and the model of it.
type pair struct {
	d    *disk.Disk
	p    *page.Pager
	m    *model
	hold int
}

// agree holds what can be seen of a pager and its disk, but for the pages, against the model.
func (x pair) agree(t *testing.T) {
	t.Helper()
	if held, changed := x.p.Held(), x.p.Changed(); held > max(x.hold, 0)+changed || held < changed {
		t.Fatalf("%d are held, %d are changed, hold %d", held, changed, x.hold)
	}
	if x.p.Changed() != x.m.changed() {
		t.Fatalf("%d are changed, want %d", x.p.Changed(), x.m.changed())
	}
	for i := -1; i < 18; i++ {
		if x.p.Root(i) != x.m.root(i) {
			t.Fatalf("Root(%d): %d, want %d", i, x.p.Root(i), x.m.root(i))
		}
	}
	if got := records(t, x.d, x.m.size); !slices.Equal(got, x.m.records) {
		t.Fatalf("%d records: %q, want %d: %q", len(got), got, len(x.m.records), x.m.records)
	}
	for n, may := range x.m.homes {
		if b, _ := x.d.Read(x.m.size + n); !slices.Contains(may, b) {
			t.Fatalf("home %d has what was never committed, or too old: %q", n, b)
		}
	}
}

func (x pair) agreeOnPage(t *testing.T, n int) {
	t.Helper()
	b, e := x.p.Get(n)
	if want, we := x.m.get(n); b != want || e != we {
		t.Fatalf("Get(%d): %d %q, want %d %q", n, e, b, we, want)
	}
}

// anyPage is mostly the number of a page in use.
func (x pair) anyPage(r *rand.Rand) int {
	if r.Intn(8) == 0 {
		return r.Intn(len(x.m.now)+4) - 2
	}
	return r.Intn(int(x.m.number(0)))
}

// anyBlock is often one that was there already, or zeros.
func (x pair) anyBlock(r *rand.Rand) disk.Block {
	switch r.Intn(4) {
	case 0:
		return x.m.saved[r.Intn(len(x.m.saved))]
	case 1:
		return disk.Block{}
	}
	return full(byte(r.Intn(256)))
}

// change is a random change of both, with equal results.
func (x pair) change(t *testing.T, r *rand.Rand) {
	t.Helper()
	switch n := x.anyPage(r); r.Intn(8) {
	case 0, 1:
		b := x.anyBlock(r)
		wantErr(t, "Put", x.p.Put(n, b), x.m.put(n, b))
	case 2:
		i, v := r.Intn(20)-2, uint64(r.Intn(3))
		wantErr(t, "SetRoot", x.p.SetRoot(i, v), x.m.setRoot(i, v))
	case 3, 4:
		got, e := x.p.Alloc()
		want, we := x.m.alloc()
		if got != want || e != we {
			t.Fatalf("Alloc: %d, %d, want %d, %d", got, e, want, we)
		}
	case 5:
		wantErr(t, "Free", x.p.Free(n), x.m.free(n))
	case 6:
		if x.m.has(n) { // the committed contents again
			x.m.put(n, x.m.saved[n])
			wantErr(t, "Put", x.p.Put(n, x.m.saved[n]), api.OK)
		}
	case 7:
		x.agreeOnPage(t, n)
	}
}

// step is a random call.
func (x *pair) step(t *testing.T, r *rand.Rand) {
	t.Helper()
	switch r.Intn(16) {
	case 0, 1:
		wantErr(t, "Commit", x.p.Commit(), x.m.commit())
	case 2:
		x.p.Abort()
		x.m.abort()
	case 3:
		wantErr(t, "Checkpoint", x.p.Checkpoint(), x.m.checkpoint())
	case 4:
		x.hold = r.Intn(8) - 2
		x.p = mustOpen(t, x.d, x.m.size, x.hold)
		x.m.abort()
		if x.p.Changed() != 0 {
			t.Errorf("%d are changed", x.p.Changed())
		}
	case 5:
		if x.m.room = x.d.Blocks(); r.Intn(3) == 0 {
			x.m.room = 2 + r.Intn(x.d.Blocks()-1)
		}
		x.d.Room(x.m.room)
	case 6:
		for n := range len(x.m.now) + 2 {
			x.agreeOnPage(t, n-1)
		}
	default:
		x.change(t, r)
	}
}

// newPair is a pager of a random size on a disk of junk.
func newPair(t *testing.T, r *rand.Rand) *pair {
	t.Helper()
	blocks := 4 + r.Intn(26)
	size := 3 + r.Intn(blocks-3)
	d := junk(blocks)
	wantErr(t, "Format", page.Format(d, size), api.OK)
	hold := r.Intn(8) - 2
	return &pair{d: d, p: mustOpen(t, d, size, hold), m: load(t, d, size), hold: hold}
}

// P5.3 to P5.7: random calls have the results of the chapter's words.
func TestModel(t *testing.T) {
	r := rand.New(rand.NewSource(5))
	for run := range 400 {
		x := newPair(t, r)
		for range 150 {
			x.step(t, r)
			x.agree(t)
			if t.Failed() {
				t.Fatalf("run %d", run)
			}
		}
	}
}

// P5.7: what is held between the calls, of a pager with more pages than that.
func TestHeld(t *testing.T) {
	for _, hold := range holds() {
		d, p := fresh(t, 20, hold)
		held := func(what string, more int) {
			t.Helper()
			if limit := max(hold, 0); p.Held() < p.Changed() || p.Held() > limit+p.Changed()+more && limit < 100 {
				t.Errorf("hold %d: %s: %d are held, %d are changed", hold, what, p.Held(), p.Changed())
			}
		}
		held("Checkpoint", 0)
		for n := 1; n <= 12; n++ {
			put(t, p, n, full('x'))
			held("Put", 0)
		}
		wantErr(t, "Commit", p.Commit(), api.OK)
		held("Commit", 0)
		p = mustOpen(t, d, 16, hold)
		held("Open", 12)
		for n := 20; n >= 1; n-- {
			if b, e := p.Get(n); e != api.OK || (b == full('x')) != (n <= 12) {
				t.Errorf("Get(%d): %d %q", n, e, b)
			}
			held("Get", 0)
		}
		put(t, p, 5, full('y'))
		held("Put", 0)
		wantErr(t, "Free", p.Free(7), api.OK)
		held("Free", 0)
		wantErr(t, "Checkpoint", p.Checkpoint(), api.OK)
		held("Checkpoint", 0)
		wantAlloc(t, p, 7, 21, 22)
		held("Alloc", 0)
		p.Abort()
		held("Abort", 0)
	}
}

// P5.7: with enough to be held, pages once read are had without the disk; the first ones to come are the first ones to go.
func TestHeldPagesNeedNoDisk(t *testing.T) {
	d, _ := fresh(t, 8, 0)
	p := mustOpen(t, d, 16, 3)
	for _, n := range []int{1, 2, 3, 2, 4} {
		wantGet(t, p, n, full(byte(n)))
	}
	put(t, p, 6, full('x')) // its committed contents are read too
	d.Arm(0)
	d.Sync()
	for _, n := range []int{3, 4} {
		wantGet(t, p, n, full(byte(n)))
	}
	refuseGet(t, p, 1, api.ErrDown)
	refuseGet(t, p, 2, api.ErrDown)
	put(t, p, 6, full(6))
	wantChanged(t, p, 0)
}
