package log_test

import (
	"math/rand"
	"slices"
	"strings"
	"testing"

	"touchmark/api"
	"touchmark/disk"
	"touchmark/log"
)

// failures calls try with a copy of a disk for each way in which the unsynced writes can survive.
func failures(d *disk.Disk, try func(d *disk.Disk)) {
	loose := d.Loose()
	for set := range 1 << loose {
		keep := make([]bool, loose)
		for i := range keep {
			keep[i] = set>>i&1 == 1
		}
		for torn := -1; torn < 256; torn++ {
			c := d.Copy()
			c.Up(keep, torn)
			try(c)
			if set == 0 {
				break
			}
		}
	}
}

// wantOneOf wants records that are one of two lists, and that the log goes on behind them.
func wantOneOf(t *testing.T, d *disk.Disk, first, size int, old, new []string) {
	t.Helper()
	l, records, e := log.Open(d, first, size)
	if e != api.OK || !same(records, old) && !same(records, new) {
		t.Fatalf("%.200q, %d, want %.200q or %.200q", records, e, old, new)
	}
	now := old
	if !same(records, old) {
		now = new
	}
	if l.Append([]byte("+")) == api.OK {
		wantErr(t, "Sync", l.Sync(), api.OK)
		wantOpen(t, d, first, size, append(slices.Clone(now), "+")...)
	}
}

// histories are ways by which a log of 5 blocks comes to have records.
func histories() map[string]func(t *testing.T) (*disk.Disk, *log.Log, []string) {
	long := strings.Repeat("l", 300)
	return map[string]func(t *testing.T) (*disk.Disk, *log.Log, []string){
		"new": func(t *testing.T) (*disk.Disk, *log.Log, []string) {
			d, l := fresh(t)
			return d, l, nil
		},
		"one Sync": func(t *testing.T) (*disk.Disk, *log.Log, []string) {
			d, l := fresh(t, "one", "")
			return d, l, []string{"one", ""}
		},
		"two Syncs, up to the end of a block": func(t *testing.T) (*disk.Disk, *log.Log, []string) {
			d, l := fresh(t, "one")
			two := strings.Repeat("t", 237)
			put(t, l, two)
			wantErr(t, "Sync", l.Sync(), api.OK)
			return d, l, []string{"one", two}
		},
		"Restart": func(t *testing.T) (*disk.Disk, *log.Log, []string) {
			d, l := fresh(t, long, long)
			wantErr(t, "Restart", l.Restart(), api.OK)
			return d, l, nil
		},
		"Restart and Sync": func(t *testing.T) (*disk.Disk, *log.Log, []string) {
			d, l := fresh(t, long, long)
			wantErr(t, "Restart", l.Restart(), api.OK)
			put(t, l, "three")
			wantErr(t, "Sync", l.Sync(), api.OK)
			return d, l, []string{"three"}
		},
		"numbers whose bytes change": func(t *testing.T) (*disk.Disk, *log.Log, []string) {
			d := byHand(marked(0xfffe, 0xffff, 8), marked(0xffff, 0xffff, 263), stored(strings.Repeat("b", 255)))
			return d, wantOpen(t, d, 1, 5, strings.Repeat("b", 255)), []string{strings.Repeat("b", 255)}
		},
	}
}

// P4.6: a failure at any operation of a Sync, with any of the unsynced writes, the last one torn anywhere.
func TestCrashInSync(t *testing.T) {
	for name, history := range histories() {
		for _, added := range [][]string{{""}, {"a", "b"}, {strings.Repeat("c", 240), "d"}, {strings.Repeat("e", 480)}} {
			for fuse := 0; ; fuse++ {
				d, l, old := history(t)
				new := append(slices.Clone(old), added...)
				put(t, l, added...)
				d.Arm(fuse)
				e := l.Sync()
				if e == api.OK {
					// Nothing is unsynced any more, so there is one failure alone.
					failures(d, func(d *disk.Disk) { wantOneOf(t, d, 1, 5, new, new) })
					break
				}
				wantErr(t, "Sync", e, api.ErrDown)
				failures(d, func(d *disk.Disk) { wantOneOf(t, d, 1, 5, old, new) })
				if t.Failed() {
					t.Fatalf("%s: fuse %d", name, fuse)
				}
			}
		}
	}
}

// P4.6: a failure at any operation of a Restart.
func TestCrashInRestart(t *testing.T) {
	for name, history := range histories() {
		for fuse := range 3 {
			d, l, old := history(t)
			d.Arm(fuse)
			if e := l.Restart(); fuse < 2 {
				wantErr(t, "Restart", e, api.ErrDown)
				failures(d, func(d *disk.Disk) { wantOneOf(t, d, 1, 5, old, nil) })
			} else {
				wantErr(t, "Restart", e, api.OK)
				failures(d, func(d *disk.Disk) { wantOneOf(t, d, 1, 5, nil, nil) })
			}
			if t.Failed() {
				t.Fatalf("%s: fuse %d", name, fuse)
			}
		}
	}
}

// P4.6: a power failure between the calls; what was appended alone is gone.
func TestCrashBetween(t *testing.T) {
	for _, history := range histories() {
		d, l, old := history(t)
		put(t, l, "lost", "")
		failures(d, func(d *disk.Disk) { wantOneOf(t, d, 1, 5, old, old) })
		l.Drop()
		failures(d, func(d *disk.Disk) { wantOneOf(t, d, 1, 5, old, old) })
	}
}

// P4.6: failure upon failure: each begins with what the one before has left behind.
func TestCrashAgain(t *testing.T) {
	r := rand.New(rand.NewSource(4))
	for run := range 400 {
		size := 3 + r.Intn(5)
		first := r.Intn(9 - size)
		d := junk(8)
		log.Format(d, first, size)
		var now []string
		for range 60 {
			now = crashOnce(t, r, d, first, size, now)
			if t.Failed() {
				t.Fatalf("run %d", run)
			}
		}
	}
}

// crashOnce lets a log do something, lets the disk fail meanwhile or afterwards, and returns what is left.
func crashOnce(t *testing.T, r *rand.Rand, d *disk.Disk, first, size int, now []string) []string {
	t.Helper()
	l := wantOpen(t, d, first, size, now...)
	d.Arm(r.Intn(12) - 1)
	may := now
	for range 1 + r.Intn(3) {
		next, e := now, api.OK
		if r.Intn(5) == 0 {
			next, e = nil, l.Restart()
		} else {
			for range r.Intn(4) {
				record := strings.Repeat(string(rune('a'+r.Intn(26))), r.Intn(1+l.Left()))
				if l.Append([]byte(record)) == api.OK {
					next = append(slices.Clone(next), record)
				}
			}
			e = l.Sync()
		}
		if may = next; e != api.OK {
			break
		}
		now = next
	}
	keep := make([]bool, d.Loose())
	for i := range keep {
		keep[i] = r.Intn(2) == 0
	}
	d.Up(keep, r.Intn(2)*(r.Intn(60)+1)-1)
	_, records, e := log.Open(d, first, size)
	if e == api.OK && same(records, may) {
		return may
	}
	if e != api.OK || !same(records, now) {
		t.Errorf("%.300q, %d, want %.300q or %.300q", records, e, now, may)
	}
	return now
}
