package journal_test

import (
	"bytes"
	"fmt"
	"testing"

	"palfrey/api"
	"palfrey/disk"
	"palfrey/journal"
	"palfrey/octets"
)

func made(t *testing.T, many int) *disk.Disk {
	t.Helper()
	d, e := disk.New(many)
	if e != api.OK {
		t.Fatal(e)
	}
	return d
}

func open(t *testing.T, d *disk.Disk) *journal.Journal {
	t.Helper()
	j, e := journal.Open(d)
	if e != api.OK || j == nil {
		t.Fatal(e)
	}
	return j
}

func add(t *testing.T, j *journal.Journal, record string, want api.Errno) {
	t.Helper()
	if e := j.Append([]byte(record)); e != want {
		t.Errorf("%q: %v, not %v", record, e, want)
	}
}

func holds(t *testing.T, j *journal.Journal, want ...string) {
	t.Helper()
	if j.Len() != len(want) {
		t.Errorf("%d records, not %d", j.Len(), len(want))
	}
	n := 0
	for i, b := range j.All() {
		if i != n || i >= len(want) || string(b) != want[i] {
			t.Errorf("record %d: %q", i, b)
		}
		n++
	}
	if n != len(want) {
		t.Errorf("%d records enumerated, not %d", n, len(want))
	}
}

// sector is one with a record, as the document has it.
func sector(number uint64, size byte, bytes string) disk.Sector {
	var s disk.Sector
	copy(s[:], octets.High(number, 4))
	s[4] = size
	copy(s[5:], bytes)
	return s
}

func put(t *testing.T, d *disk.Disk, i int, s disk.Sector) {
	t.Helper()
	if d.Write(i, s) != api.OK || d.Sync() != api.OK {
		t.Fatal(i)
	}
}

// P22.1
func TestOpenEmpty(t *testing.T) {
	if j, e := journal.Open(nil); e != api.ErrArg || j != nil {
		t.Error(j, e)
	}
	d := made(t, 4)
	d.Fuse(0)
	// Nothing is written, so that the fuse does not matter.
	holds(t, open(t, d))
	if len(d.Pending()) != 0 {
		t.Error(d.Pending())
	}
}

// P22.1
func TestOpen(t *testing.T) {
	d := made(t, 3)
	put(t, d, 0, sector(1, 2, "ab"))
	put(t, d, 1, sector(2, 0, ""))
	holds(t, open(t, d), "ab", "")
	full := string(bytes.Repeat([]byte{7}, 59))
	put(t, d, 2, sector(3, 59, full))
	holds(t, open(t, d), "ab", "", full)
	// Records that end with zero bytes.
	put(t, d, 1, sector(2, 3, "a\x00\x00"))
	holds(t, open(t, d), "ab", "a\x00\x00", full)
	// What is pending is read as well.
	if e := d.Write(0, sector(1, 1, "x")); e != api.OK {
		t.Fatal(e)
	}
	holds(t, open(t, d), "x", "a\x00\x00", full)
}

// P22.1: up to the first sector without a record of its own index.
func TestOpenStops(t *testing.T) {
	for what, s := range map[string]disk.Sector{
		"zeros":            {},
		"index before":     sector(1, 1, "x"),
		"index after":      sector(3, 1, "x"),
		"number 0":         sector(0, 1, "x"),
		"high bytes":       sector(2+1<<8, 1, "x"),
		"highest byte":     sector(2+1<<24, 1, "x"),
		"length 60":        sector(2, 60, "x"),
		"length 255":       sector(2, 255, "x"),
		"more than length": sector(2, 1, "xy"),
		"more than none":   sector(2, 0, "x"),
		"last byte":        sector(2, 58, string(bytes.Repeat([]byte{1}, 59))),
	} {
		d := made(t, 3)
		put(t, d, 0, sector(1, 2, "ab"))
		put(t, d, 1, s)
		put(t, d, 2, sector(3, 2, "cd"))
		j := open(t, d)
		if j.Len() != 1 {
			t.Error(what, j.Len())
		}
		holds(t, j, "ab")
		// The next record takes the place of that sector, and the one behind it counts again.
		add(t, j, "new", api.OK)
		holds(t, j, "ab", "new")
		holds(t, open(t, d), "ab", "new", "cd")
	}
	d := made(t, 2)
	put(t, d, 0, sector(2, 1, "x"))
	put(t, d, 1, sector(2, 1, "x"))
	holds(t, open(t, d))
}

// P22.1: the records are read by Open, and not later.
func TestOpenReadsOnce(t *testing.T) {
	d := made(t, 4)
	j := open(t, d)
	add(t, j, "a", api.OK)
	put(t, d, 0, sector(1, 1, "x"))
	put(t, d, 1, sector(2, 1, "y"))
	holds(t, j, "a")
	other := open(t, d)
	holds(t, other, "x", "y")
	add(t, j, "b", api.OK)
	holds(t, j, "a", "b")
	holds(t, other, "x", "y")
	d.Crash(0)
	holds(t, j, "a", "b")
	holds(t, open(t, d), "x", "b")
}

// P22.2
func TestAppend(t *testing.T) {
	d := made(t, 3)
	j := open(t, d)
	add(t, j, "ab", api.OK)
	if s, _ := d.Read(0); s != sector(1, 2, "ab") {
		t.Error(s)
	}
	if len(d.Pending()) != 0 {
		t.Error("not synchronized")
	}
	add(t, j, string(make([]byte, 60)), api.ErrArg)
	full := string(bytes.Repeat([]byte{9}, 59))
	add(t, j, full, api.OK)
	if s, _ := d.Read(1); s != sector(2, 59, full) {
		t.Error(s)
	}
	add(t, j, "", api.OK)
	if s, _ := d.Read(2); s != sector(3, 0, "") {
		t.Error(s)
	}
	holds(t, j, "ab", full, "")
	holds(t, open(t, d), "ab", full, "")
	add(t, j, "x", api.ErrFull)
	// Too long comes ahead of full, and full ahead of dead.
	add(t, j, string(make([]byte, 60)), api.ErrArg)
	d.Fuse(0)
	add(t, j, "x", api.ErrFull)
	holds(t, j, "ab", full, "")
}

// P22.2
func TestAppendOneSector(t *testing.T) {
	d := made(t, 1)
	j := open(t, d)
	add(t, j, "ab", api.OK)
	add(t, j, "cd", api.ErrFull)
	holds(t, open(t, d), "ab")
	d = made(t, 64)
	j = open(t, d)
	for i := range 64 {
		add(t, j, fmt.Sprint(i), api.OK)
	}
	add(t, j, "x", api.ErrFull)
	if open(t, d).Len() != 64 {
		t.Error(open(t, d).Len())
	}
}

// P22.2: a write, and a sync, without power.
func TestAppendDead(t *testing.T) {
	for fuse := range 2 {
		d := made(t, 4)
		j := open(t, d)
		add(t, j, "a", api.OK)
		d.Fuse(fuse)
		add(t, j, "b", api.ErrDead)
		holds(t, j, "a")
		add(t, j, "b", api.ErrDead)
		holds(t, j, "a")
		d.Crash(0)
		holds(t, j, "a")
		// The journal goes on at the same sector.
		add(t, j, "c", api.OK)
		holds(t, j, "a", "c")
		holds(t, open(t, d), "a", "c")
	}
	d := made(t, 4)
	j := open(t, d)
	d.Fuse(2)
	add(t, j, "a", api.OK)
	add(t, j, "b", api.ErrDead)
	holds(t, j, "a")
}

// P22.3
func TestAll(t *testing.T) {
	d := made(t, 5)
	j := open(t, d)
	all := j.All()
	for i := range all {
		t.Error("a record", i)
	}
	add(t, j, "a", api.OK)
	add(t, j, "b", api.OK)
	// As they are when the iteration takes place, and as often as one likes.
	for range 2 {
		var got []string
		for i, b := range all {
			got = append(got, fmt.Sprint(i, string(b)))
		}
		if fmt.Sprint(got) != "[0a 1b]" {
			t.Error(got)
		}
	}
	for i := range all {
		if i != 0 {
			t.Error("the iteration did not end")
		}
		break
	}
	// Records are the caller's.
	for _, b := range all {
		b[0] = 'x'
		_ = append(b, 1, 2, 3)
	}
	holds(t, j, "a", "b")
	record := []byte("c")
	if e := j.Append(record); e != api.OK {
		t.Fatal(e)
	}
	record[0] = 'x'
	holds(t, j, "a", "b", "c")
}

// P22.4: the power goes at every point, and of what was pending every part is kept or not.
func TestCrashes(t *testing.T) {
	for fuse := range 14 {
		for kept := range uint64(4) {
			d := made(t, 10)
			j := open(t, d)
			d.Fuse(fuse)
			var sure []string
			inProgress := ""
			for i := range 6 {
				record := fmt.Sprint("record ", i)
				if e := j.Append([]byte(record)); e != api.OK {
					if e != api.ErrDead {
						t.Fatal(e)
					}
					inProgress = record
					break
				}
				sure = append(sure, record)
			}
			d.Crash(kept)
			again := open(t, d)
			switch again.Len() {
			case len(sure):
				holds(t, again, sure...)
			case len(sure) + 1:
				if inProgress == "" {
					t.Error("a record too many")
				}
				holds(t, again, append(sure, inProgress)...)
			default:
				t.Error(fuse, kept, again.Len(), len(sure))
			}
			// What was kept of an Append that failed in its Sync is the record in progress.
			if want := kept&1 == 1 && fuse%2 == 1 && fuse < 12; (again.Len() > len(sure)) != want {
				t.Error(fuse, kept, again.Len(), len(sure))
			}
			before := again.Len()
			add(t, again, "after", api.OK)
			if open(t, d).Len() != before+1 {
				t.Error("the journal does not go on")
			}
		}
	}
}
