package page_test

import (
	"math"
	"strings"
	"testing"

	"touchmark/api"
	"touchmark/disk"
	"touchmark/log"
	"touchmark/page"
)

// byHand is a disk of 40 blocks of junk with a log of 16 that has these records, and a header at its home.
func byHand(t *testing.T, header disk.Block, records ...string) *disk.Disk {
	t.Helper()
	d := junk(40)
	wantErr(t, "log.Format", log.Format(d, 0, 16), api.OK)
	l, _, _ := log.Open(d, 0, 16)
	for _, r := range records {
		wantErr(t, "Append", l.Append([]byte(r)), api.OK)
	}
	wantErr(t, "Sync", l.Sync(), api.OK)
	d.Write(16, header)
	d.Sync()
	return d
}

// P5.2: nothing is written, whatever Open answers.
func TestOpenWritesNothing(t *testing.T) {
	for _, d := range []*disk.Disk{
		byHand(t, headed(5, 2)),
		byHand(t, headed(5, 2), entry(1, full(1))+entry(2, full(2)), entry(0, headed(9, 0))),
		byHand(t, headed(0, 0)),
		byHand(t, headed(5, 2), "x"),
		disk.New(40),
		junk(40),
	} {
		was := contents(d)
		for _, hold := range holds() {
			d.Arm(0)
			page.Open(d, 16, hold)
			if d.Down() || d.Loose() != 0 {
				t.Errorf("down %v, %d unsynced", d.Down(), d.Loose())
			}
		}
		wantContents(t, d, was)
	}
}

// P5.2: the errors of the log come first.
func TestOpenLogErrors(t *testing.T) {
	refuseOpen(t, disk.New(40), 16, api.ErrForm)
	refuseOpen(t, junk(40), 16, api.ErrForm)
	cut := byHand(t, headed(1, 0), entry(1, full(1)))
	b, _ := cut.Read(2)
	b[7]++ // the record's length
	cut.Write(2, b)
	refuseOpen(t, cut, 16, api.ErrForm)
	down := byHand(t, headed(0, 0), "x")
	down.Arm(0)
	down.Sync()
	refuseOpen(t, down, 16, api.ErrDown)
}

// P5.2: a record is a list of pages, 264 bytes each; one that isn't is refused wherever it stands.
func TestOpenRecordLengths(t *testing.T) {
	good := entry(1, full(1))
	two := good + entry(2, full(2))
	for length := 0; length <= len(two); length++ {
		want := api.ErrForm
		if length%264 == 0 {
			want = api.OK
		}
		for _, records := range [][]string{{two[:length]}, {two, two[:length]}, {two[:length], two}, {two, two[:length], two}} {
			d := byHand(t, headed(3, 0), records...)
			if p, e := page.Open(d, 16, 3); e != want || (p != nil) != (want == api.OK) {
				t.Errorf("%d bytes: %v, %d, want %d", length, p, e, want)
			}
		}
	}
}

// P5.2: the pages of a record exist on the disk, in use or not.
func TestOpenRecordPages(t *testing.T) {
	for n, want := range map[uint64]api.Errno{
		0: api.OK, 1: api.OK, 2: api.OK, 3: api.OK, 22: api.OK, 23: api.OK,
		24: api.ErrForm, 25: api.ErrForm, 39: api.ErrForm, 40: api.ErrForm, 256: api.ErrForm, 4096: api.ErrForm, 1 << 16: api.ErrForm, 1 << 32: api.ErrForm, 1<<32 + 1: api.ErrForm,
		1<<63 - 1: api.ErrForm, 1 << 63: api.ErrForm, 1<<63 + 1: api.ErrForm, math.MaxUint64: api.ErrForm, math.MaxUint64 - 15: api.ErrForm,
	} {
		bad := entry(n, headed(3, 0))
		good := entry(1, full(1)) + entry(2, full(2))
		for _, records := range [][]string{{bad}, {good + bad}, {bad + good}, {good, bad}, {bad, good}} {
			d := byHand(t, headed(3, 0), records...)
			if want != api.OK {
				refuseOpen(t, d, 16, want)
			} else {
				mustOpen(t, d, 16, 3)
			}
		}
	}
}

// P5.2: a record is refused before a header is.
func TestOpenRecordBeforeHeader(t *testing.T) {
	refuseOpen(t, byHand(t, headed(0, 0), "x"), 16, api.ErrForm)
	refuseOpen(t, byHand(t, headed(3, 0), entry(0, headed(3, 0)), "x"), 16, api.ErrForm)
	refuseOpen(t, byHand(t, headed(3, 0), entry(24, headed(3, 0))), 16, api.ErrForm)
}

// P5.2: how many pages a header can say are in use: at its home, or in the log if it is there.
func TestOpenHeader(t *testing.T) {
	for used, want := range map[uint64]api.Errno{
		0: api.ErrForm, 1: api.OK, 2: api.OK, 23: api.OK, 24: api.OK, 25: api.ErrForm, 40: api.ErrForm, 4096: api.ErrForm, 1<<32 + 3: api.ErrForm, 1 << 63: api.ErrForm, 1<<63 + 3: api.ErrForm, math.MaxUint64: api.ErrForm, math.MaxUint64 - 15: api.ErrForm,
	} {
		for _, d := range []*disk.Disk{
			byHand(t, headed(used, 7, 8)),
			byHand(t, headed(used, 7, 8), entry(1, full(1))),
			byHand(t, headed(3, 0), entry(0, headed(used, 7, 8))),
			byHand(t, headed(3, 0), entry(0, headed(4, 0)), entry(0, headed(used, 7, 8)), entry(1, full(1))),
			byHand(t, full(0), entry(0, headed(used, 7, 8))),
			byHand(t, full(0xff), entry(0, full(0)), entry(0, headed(used, 7, 8))),
		} {
			if want != api.OK {
				refuseOpen(t, d, 16, want)
				continue
			}
			for _, hold := range holds() {
				p := mustOpen(t, d, 16, hold)
				if _, e := p.Get(int(used) - 1); (e == api.OK) != (used > 1) {
					t.Errorf("%d in use: %d", used, e)
				}
				refuseGet(t, p, int(used), api.ErrRange)
				if p.Root(0) != 8 || p.Changed() != 0 {
					t.Errorf("Root(0) is %d, %d pages are changed", p.Root(0), p.Changed())
				}
			}
		}
	}
}

// P5.2 and the words: the contents of a page are those in the last record that has it, or else those of its home.
func TestOpenContents(t *testing.T) {
	d := byHand(t, headed(24, 0),
		entry(1, full('a'))+entry(2, full('b'))+entry(5, full('c')),
		entry(2, full('d')),
		"",
		entry(0, headed(7, 3, 9, 8))+entry(1, full('e'))+entry(6, full('f')),
		entry(6, full('g')))
	home := contents(d)
	for _, hold := range holds() {
		p := mustOpen(t, d, 16, hold)
		for range 2 {
			for n, want := range []disk.Block{1: full('e'), 2: full('d'), 3: home[16+3], 4: home[16+4], 5: full('c'), 6: full('g')} {
				if n > 0 {
					wantGet(t, p, n, want)
				}
			}
		}
		refuseGet(t, p, 7, api.ErrRange)
		if p.Root(0) != 9 || p.Root(1) != 8 || p.Root(2) != 0 || p.Changed() != 0 {
			t.Errorf("roots %d, %d, %d, %d pages are changed", p.Root(0), p.Root(1), p.Root(2), p.Changed())
		}
	}
}

// P5.2: pages in another order than that of Commit, and a page twice, are a list of pages too.
func TestOpenOtherOrder(t *testing.T) {
	d := byHand(t, headed(9, 0), entry(5, full('a'))+entry(2, full('b'))+entry(5, full('c')))
	for _, hold := range holds() {
		p := mustOpen(t, d, 16, hold)
		wantGet(t, p, 5, full('c'))
		wantGet(t, p, 2, full('b'))
	}
}

// P5.2: the log may be full to its last byte, and pages may lie across its blocks in any way.
func TestOpenFullLog(t *testing.T) {
	for shift := range 64 {
		// Empty records of 8 bytes move the next one.
		records := make([]string, shift)
		var want []disk.Block
		for n := range 10 {
			b := block(strings.Repeat(string(rune('a'+n)), 256-n) + strings.Repeat("!", n))
			want = append(want, b)
			records = append(records, entry(uint64(n+1), b))
		}
		d := byHand(t, headed(11, 0), records...)
		p := mustOpen(t, d, 16, shift%5-1)
		for n, b := range want {
			wantGet(t, p, n+1, b)
		}
		put(t, p, 3, full('z'))
		wantErr(t, "Commit", p.Commit(), api.OK)
		wantGet(t, mustOpen(t, d, 16, 2), 3, full('z'))
		wantGet(t, p, 3, full('z'))
		wantGet(t, p, 10, want[9])
	}
	last := ""
	for n := range 13 {
		last += entry(uint64(n+1), full(byte(n)))
	}
	last += entry(0, headed(14, 0))
	d := junk(40)
	log.Format(d, 0, 17)
	l, _, _ := log.Open(d, 0, 17)
	for l.Left() > len(last) {
		wantErr(t, "Append", l.Append(nil), api.OK)
	}
	wantErr(t, "Append", l.Append([]byte(last)), api.OK)
	wantErr(t, "Sync", l.Sync(), api.OK)
	wantErr(t, "Append to a full log", l.Append(nil), api.ErrFull)
	p := mustOpen(t, d, 17, 0)
	for n := range 13 {
		wantGet(t, p, n+1, full(byte(n)))
	}
}

// The words: a header's page has bytes behind its numbers, which nobody changes.
func TestBehindTheHeader(t *testing.T) {
	tailed := headed(5, 0)
	for i := 18 * 8; i < 256; i++ {
		tailed[i] = byte(i)
	}
	for _, hold := range holds() {
		d := byHand(t, tailed)
		p := mustOpen(t, d, 16, hold)
		wantErr(t, "SetRoot", p.SetRoot(15, 1), api.OK)
		wantChanged(t, p, 1)
		wantErr(t, "SetRoot", p.SetRoot(15, 0), api.OK)
		wantChanged(t, p, 0)
		wantErr(t, "SetRoot", p.SetRoot(15, 2), api.OK)
		wantErr(t, "Commit", p.Commit(), api.OK)
		want := tailed
		want[17*8+7] = 2
		wantRecords(t, d, 16, entry(0, want))
	}
}
