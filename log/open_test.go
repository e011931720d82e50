package log_test

import (
	"bytes"
	"math"
	"strings"
	"testing"

	"touchmark/api"
	"touchmark/disk"
	"touchmark/log"
)

// byHand is a disk of junk with a log of 5 blocks from block 1 on.
func byHand(mark0, mark1 disk.Block, area string) *disk.Disk {
	d := junk(8)
	lay(d, 1, mark0, mark1, area)
	return d
}

// P4.2: which of two marks is the log's; the epoch tells which one was taken.
func TestNewestMark(t *testing.T) {
	none, other := disk.Block{}, contents(junk(8))[0]
	for i, c := range []struct {
		mark0, mark1 disk.Block
		epoch        uint64 // 0: no mark is valid
	}{
		{none, none, 0},
		{other, other, 0},
		{none, marked(1, 7, 0), 7},
		{other, marked(1, 7, 0), 7},
		{none, marked(3, 7, 0), 7},
		{none, marked(math.MaxUint64, 7, 0), 7},
		{marked(2, 8, 0), none, 8},
		{marked(2, 8, 0), other, 8},
		{marked(4, 8, 0), none, 8},
		{marked(math.MaxUint64-1, 8, 0), none, 8},
		{marked(2, 8, 0), marked(1, 7, 0), 8},
		{marked(2, 8, 0), marked(3, 7, 0), 7},
		{marked(4, 8, 0), marked(3, 9, 0), 8},
		{marked(4, 8, 0), marked(1, 9, 0), 8},
		{marked(2, 9, 0), marked(9, 7, 0), 7},
		{marked(256, 8, 0), marked(255, 7, 0), 8},
		{marked(256, 8, 0), marked(257, 7, 0), 7},
		{marked(1<<32, 8, 0), marked(1<<32-1, 7, 0), 8},
		{marked(1<<63, 8, 0), marked(1<<63-1, 7, 0), 8},
		{marked(1<<63-2, 8, 0), marked(1<<63+1, 7, 0), 7},
		{marked(math.MaxUint64-1, 8, 0), marked(math.MaxUint64, 7, 0), 7},
		{marked(math.MaxUint64-1, 8, 0), marked(1, 7, 0), 8},
		{marked(2, math.MaxUint64, 0), marked(1, 7, 0), math.MaxUint64},
		// Numbers that a mark doesn't have in its block.
		{marked(0, 8, 0), none, 0},
		{marked(0, 8, 0), marked(1, 7, 0), 7},
		{marked(1, 8, 0), none, 0},
		{marked(3, 8, 0), none, 0},
		{marked(3, 8, 0), marked(1, 7, 0), 7},
		{marked(5, 8, 0), marked(3, 7, 0), 7},
		{none, marked(0, 7, 0), 0},
		{none, marked(2, 7, 0), 0},
		{none, marked(4, 7, 0), 0},
		{marked(2, 8, 0), marked(4, 7, 0), 8},
		{marked(2, 8, 0), marked(0, 7, 0), 8},
		{marked(1, 8, 0), marked(2, 7, 0), 0},
		{marked(math.MaxUint64, 8, 0), marked(math.MaxUint64-1, 7, 0), 0},
		// The groups aren't the same, or not in the opposite order.
		{groups(4, 8, 0, 0, 8, 2), marked(1, 7, 0), 7},
		{groups(2, 8, 0, 0, 8, 4), marked(1, 7, 0), 7},
		{groups(2, 8, 0, 0, 9, 2), marked(1, 7, 0), 7},
		{groups(2, 8, 0, 1, 8, 2), marked(1, 7, 0), 7},
		{groups(2, 8, 1, 0, 8, 2), marked(1, 7, 0), 7},
		{groups(2, 8, 0, 2, 8, 0), marked(1, 7, 0), 7},
		{groups(2, 8, 0, 8, 0, 2), marked(1, 7, 0), 7},
		{groups(2, 8, 0), marked(1, 7, 0), 7},
		{groups(0, 0, 0, 0, 8, 2), marked(1, 7, 0), 7},
		{marked(2, 8, 0), groups(3, 7, 0, 0, 7, 1), 8},
		{marked(2, 8, 0), groups(1, 7, 0, 0, 7, 3), 8},
		{marked(2, 8, 0), groups(3, 7, 0, 0, 6, 3), 8},
		{marked(2, 8, 0), groups(3, 7, 0, 256, 7, 3), 8},
		{marked(2, 8, 0), groups(3, 7, 0, 3, 7, 0), 8},
		{groups(2, 8, 0, 0, 8, 4), groups(3, 7, 0, 0, 7, 1), 0},
	} {
		d := byHand(c.mark0, c.mark1, "")
		if c.epoch == 0 {
			refuseOpen(t, d, 1, 5, api.ErrForm)
			continue
		}
		l, records, e := log.Open(d, 1, 5)
		if e != api.OK || len(records) != 0 || l.Epoch() != c.epoch || l.Left() != 760 {
			t.Errorf("marks %d: %q, %d, epoch %d, want %d", i, records, e, l.Epoch(), c.epoch)
		}
	}
}

// P4.2: a mark isn't valid if any bit of its six numbers is another; what lies behind these makes no difference.
func TestMarkBits(t *testing.T) {
	good0, good1 := marked(0x0102030405060708, 8, 0), marked(0x0102030405060707, 7, 0)
	for i := range 256 {
		for bit := range 8 {
			bad0, bad1 := good0, good1
			bad0[i] ^= 1 << bit
			bad1[i] ^= 1 << bit
			epochs, alone := [2]uint64{7, 8}, api.ErrForm
			if i >= 48 {
				epochs, alone = [2]uint64{8, 8}, api.OK
			}
			wantLog(t, wantOpen(t, byHand(bad0, good1, ""), 1, 5), 760, epochs[0])
			wantLog(t, wantOpen(t, byHand(good0, bad1, ""), 1, 5), 760, epochs[1])
			_, _, e := log.Open(byHand(bad0, disk.Block{}, ""), 1, 5)
			wantErr(t, "mark 0", e, alone)
			_, _, e = log.Open(byHand(disk.Block{}, bad1, ""), 1, 5)
			wantErr(t, "mark 1", e, alone)
		}
	}
}

// P4.2: the end belongs to the log's mark, also where only the other mark's would do.
func TestEnd(t *testing.T) {
	full := stored(strings.Repeat("f", 760))
	many := strings.Repeat(eight(0), 96)
	for _, c := range []struct {
		end  uint64
		area string
		want []string // nil: ErrForm
	}{
		{0, full, []string{}},
		{0, "", []string{}},
		{768, full, []string{strings.Repeat("f", 760)}},
		{768, many, make([]string, 96)},
		{8, many, make([]string, 1)},
		{256, many, make([]string, 32)},
		{264, many, make([]string, 33)},
		{769, many, nil},
		{776, many, nil},
		{1024, many, nil},
		{1 << 31, many, nil},
		{1 << 32, many, nil},
		{1<<32 + 8, many, nil},
		{1 << 63, many, nil},
		{1<<63 + 8, many, nil},
		{math.MaxUint64, many, nil},
		{math.MaxUint64 - 7, many, nil},
	} {
		for _, other := range []uint64{0, 8, 768, math.MaxUint64} {
			for _, d := range []*disk.Disk{byHand(marked(4, 1, c.end), marked(3, 1, other), c.area), byHand(marked(4, 1, other), marked(5, 1, c.end), c.area)} {
				// There are blocks behind the log, in which records could go on.
				d.Write(6, disk.Block{})
				d.Write(7, disk.Block{})
				if c.want == nil {
					refuseOpen(t, d, 1, 5, api.ErrForm)
				} else {
					wantLog(t, wantOpen(t, d, 1, 5, c.want...), max(760-int(c.end), 0), 1)
				}
			}
		}
	}
}

// P4.2: the end may cut records anywhere; only between two of them there are as many as are complete.
func TestCutRecords(t *testing.T) {
	records := []string{"", "a", strings.Repeat("b", 239), "", strings.Repeat("c", 256), "dd", strings.Repeat("e", 200)}
	area := stored(records...)
	if len(area) > 768 {
		t.Fatal(len(area))
	}
	ends := map[int]int{}
	for n := range len(records) + 1 {
		ends[len(stored(records[:n]...))] = n
	}
	for end := range 769 {
		d := byHand(marked(2, 1, uint64(end)), disk.Block{}, area)
		if n, ok := ends[end]; ok {
			wantOpen(t, d, 1, 5, records[:n]...)
		} else {
			refuseOpen(t, d, 1, 5, api.ErrForm)
		}
	}
}

// P4.2: lengths that are longer than what is left, up to the largest.
func TestLengths(t *testing.T) {
	for _, before := range []string{"", stored("x"), stored("", "yy")} {
		for behind := range 20 {
			area := before + eight(uint64(behind)) + strings.Repeat("z", behind)
			at := len(before)
			for _, n := range []uint64{1, 2, 7, 8, 248, 256, 768, 1 << 16, 1<<31 - 1, 1 << 31, 1<<32 - 1, 1 << 32, 1<<63 - 9, 1<<63 - 8, 1<<63 - 1, 1 << 63, math.MaxUint64 - 31, math.MaxUint64 - 16, math.MaxUint64 - 8, math.MaxUint64 - 7, math.MaxUint64 - 1, math.MaxUint64} {
				long := area[:at] + eight(uint64(behind)+n) + area[at+8:]
				refuseOpen(t, byHand(marked(2, 1, uint64(len(area))), disk.Block{}, long), 1, 5, api.ErrForm)
			}
			if l, records, e := log.Open(byHand(marked(2, 1, uint64(len(area))), disk.Block{}, area), 1, 5); e != api.OK || l == nil || string(records[len(records)-1]) != strings.Repeat("z", behind) {
				t.Errorf("%q: %q, %d", area, records, e)
			}
		}
	}
}

// P4.2: errors in their order, and no log or record beside them.
func TestOpenDown(t *testing.T) {
	d, _ := fresh(t, "one")
	zeros := disk.New(8)
	for _, d := range []*disk.Disk{d, zeros} {
		d.Arm(0)
		d.Sync()
		refuseOpen(t, d, 1, 5, api.ErrDown)
		refuseOpen(t, d, 4, 5, api.ErrArg)
		d.Up(nil, -1)
	}
	wantOpen(t, d, 1, 5, "one")
	refuseOpen(t, zeros, 1, 5, api.ErrForm)
}

// P4.2: nothing is written, whatever is found.
func TestOpenWritesNothing(t *testing.T) {
	long := stored(strings.Repeat("f", 760))
	for _, d := range []*disk.Disk{disk.New(8), junk(8), byHand(marked(2, 1, 768), disk.Block{}, long), byHand(marked(2, 1, 767), disk.Block{}, long), byHand(marked(2, 1, 769), marked(1, 1, 0), long), byHand(marked(2, 1, 0), marked(3, 1, 0), long)} {
		was := contents(d)
		d.Write(7, was[7])
		d.Arm(0)
		d.Room(0)
		l, _, _ := log.Open(d, 1, 5)
		if d.Down() || d.Loose() != 1 {
			t.Errorf("Down %v, %d writes", d.Down(), d.Loose())
		}
		if l != nil {
			l.Left()
			l.Epoch()
			l.Append(nil)
			l.Drop()
		}
		if d.Down() || d.Loose() != 1 {
			t.Errorf("Down %v, %d writes, behind calls that don't operate", d.Down(), d.Loose())
		}
		wantContents(t, d, was)
	}
}

// P4.2: what is read is what was written last, synced or not.
func TestOpenUnsynced(t *testing.T) {
	d, _ := fresh(t, "one")
	d.Write(1, marked(4, 9, 10))
	d.Write(3, block(stored("xy")))
	wantLog(t, wantOpen(t, d, 1, 5, "xy"), 750, 9)
	d.Up(nil, -1)
	wantLog(t, wantOpen(t, d, 1, 5, "one"), 749, 1)
}

// R3: records share no memory, neither with each other nor with the log.
func TestOpenMemory(t *testing.T) {
	want := []string{"one", "", "two", strings.Repeat("three", 60), "four"}
	d, _ := fresh(t, want...)
	l, records, _ := log.Open(d, 1, 5)
	_, again, _ := log.Open(d, 1, 5)
	for i, r := range records {
		spoil(r)
		for j := i + 1; j < len(records); j++ {
			if string(records[j]) != want[j] {
				t.Errorf("record %d lies in record %d", j, i)
			}
		}
	}
	records = append(records[:1], bytes.Repeat([]byte{9}, 9))
	if !same(again, want) {
		t.Error("two calls share records")
	}
	put(t, l, "five")
	wantErr(t, "Sync", l.Sync(), api.OK)
	wantOpen(t, d, 1, 5, append(want, "five")...)
}

// expected is what Open must return by the chapter's words, from the blocks of the log.
func expected(blocks []disk.Block) (mark, api.Errno, []string) {
	var found mark
	for i, b := range blocks[:2] {
		m, ok := marksNumbers(b)
		valid := ok && m.number%2 == uint64(i) && (i == 1 || m.number >= 2)
		if valid && (found == mark{} || m.number > found.number) {
			found = m
		}
	}
	area := ""
	for _, b := range blocks[2:] {
		area += string(b[:])
	}
	if found == (mark{}) || found.end > uint64(len(area)) {
		return mark{}, api.ErrForm, nil
	}
	var records []string
	for rest := area[:found.end]; rest != ""; {
		if len(rest) < 8 {
			return mark{}, api.ErrForm, nil
		}
		n := numberOf(rest)
		if rest = rest[8:]; n > uint64(len(rest)) {
			return mark{}, api.ErrForm, nil
		}
		records = append(records, rest[:n])
		rest = rest[n:]
	}
	return found, api.OK, records
}

type mark struct{ number, epoch, end uint64 }

func marksNumbers(b disk.Block) (mark, bool) {
	s := string(b[:48])
	m := mark{numberOf(s), numberOf(s[8:]), numberOf(s[16:])}
	return m, s[24:32] == s[16:24] && s[32:40] == s[8:16] && s[40:48] == s[:8]
}

func numberOf(s string) uint64 {
	n := uint64(0)
	for i := range 8 {
		n = n*256 + uint64(s[i])
	}
	return n
}

// P4.2: any blocks at all.
func FuzzOpen(f *testing.F) {
	b := func(blocks ...disk.Block) []byte {
		var all []byte
		for _, b := range blocks {
			all = append(all, b[:]...)
		}
		return all
	}
	f.Add([]byte{}, uint8(0))
	f.Add(b(disk.Block{}, marked(1, 1, 0)), uint8(1))
	f.Add(b(marked(2, 1, 10), marked(1, 1, 0), block(stored("ab"))), uint8(0))
	f.Add(b(marked(2, 1, 256), marked(3, 2, 18), block(stored("ab", ""))), uint8(3))
	f.Add(b(groups(2, 1, 9, 9, 1, 4), marked(3, 2, 512), block(stored(strings.Repeat("a", 504)))), uint8(3))
	f.Fuzz(func(t *testing.T, raw []byte, first uint8) {
		at := int(first % 4)
		size := max((len(raw)+255)/256, 3)
		if size > 20 {
			return
		}
		d := disk.New(at + size)
		for n := range size {
			d.Write(at+n, block(string(raw[min(n*256, len(raw)):])))
		}
		m, want, records := expected(contents(d)[at:])
		l, got, e := log.Open(d, at, size)
		if e != want || (l != nil) != (want == api.OK) || !same(got, records) {
			t.Fatalf("%q, %d, want %q, %d", got, e, records, want)
		}
		if e == api.OK {
			wantLog(t, l, max((size-2)*256-int(m.end)-8, 0), m.epoch)
		}
	})
}
