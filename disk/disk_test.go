package disk_test

import (
	"math"
	"math/rand"
	"slices"
	"testing"

	"palfrey/api"
	"palfrey/disk"
)

func made(t *testing.T, many int) *disk.Disk {
	t.Helper()
	d, e := disk.New(many)
	if e != api.OK || d == nil {
		t.Fatal(many, e)
	}
	return d
}

func sector(n int) disk.Sector { return disk.Sector{0: byte(n), 63: byte(n + 1)} }

func write(t *testing.T, d *disk.Disk, i, n int, want api.Errno) {
	t.Helper()
	if e := d.Write(i, sector(n)); e != want {
		t.Errorf("Write(%d): %v, not %v", i, e, want)
	}
}

func sync(t *testing.T, d *disk.Disk, want api.Errno) {
	t.Helper()
	if e := d.Sync(); e != want {
		t.Errorf("Sync: %v, not %v", e, want)
	}
}

func read(t *testing.T, d *disk.Disk, i int, want disk.Sector) {
	t.Helper()
	if s, e := d.Read(i); e != api.OK || s != want {
		t.Errorf("Read(%d): %v %v", i, s, e)
	}
}

func pending(t *testing.T, d *disk.Disk, want ...int) {
	t.Helper()
	if got := d.Pending(); !slices.Equal(got, want) {
		t.Error("pending", got, want)
	}
}

// P21.1
func TestNew(t *testing.T) {
	for _, many := range []int{0, -1, 65, math.MinInt, math.MaxInt} {
		if d, e := disk.New(many); e != api.ErrArg || d != nil {
			t.Error(many, d, e)
		}
	}
	for _, many := range []int{1, 2, 64} {
		d := made(t, many)
		for i := range many {
			read(t, d, i, disk.Sector{})
		}
		pending(t, d)
		for range 100 {
			sync(t, d, api.OK)
		}
		write(t, d, many-1, 5, api.OK)
	}
}

// P21.1, P21.2
func TestNoSuchSector(t *testing.T) {
	for _, many := range []int{1, 5, 64} {
		d := made(t, many)
		for _, i := range []int{-1, many, many + 1, math.MinInt, math.MaxInt} {
			if s, e := d.Read(i); e != api.ErrArg || s != (disk.Sector{}) {
				t.Error(i, s, e)
			}
			write(t, d, i, 1, api.ErrArg)
		}
		pending(t, d)
		// A sector that is not there burns nothing, and is told ahead of the power.
		d.Fuse(1)
		write(t, d, many, 1, api.ErrArg)
		write(t, d, 0, 1, api.OK)
		write(t, d, many, 1, api.ErrArg)
		write(t, d, 0, 1, api.ErrDead)
		write(t, d, many, 1, api.ErrArg)
	}
}

// P21.1, P21.2
func TestReadWritten(t *testing.T) {
	d := made(t, 3)
	write(t, d, 1, 7, api.OK)
	read(t, d, 1, sector(7))
	read(t, d, 0, disk.Sector{})
	write(t, d, 1, 8, api.OK)
	read(t, d, 1, sector(8))
	pending(t, d, 1)
	sync(t, d, api.OK)
	pending(t, d)
	read(t, d, 1, sector(8))
	write(t, d, 2, 9, api.OK)
	write(t, d, 0, 10, api.OK)
	pending(t, d, 0, 2)
	l := d.Pending()
	l[0] = 5
	pending(t, d, 0, 2)
	// Without power, what was written is still read.
	d.Fuse(0)
	write(t, d, 1, 11, api.ErrDead)
	read(t, d, 0, sector(10))
	read(t, d, 1, sector(8))
	read(t, d, 2, sector(9))
	pending(t, d, 0, 2)
}

// P21.2
func TestFuse(t *testing.T) {
	for n := range 5 {
		d := made(t, 2)
		d.Fuse(n)
		for i := range n {
			if i%2 == 0 {
				write(t, d, 0, i, api.OK)
			} else {
				sync(t, d, api.OK)
			}
		}
		sync(t, d, api.ErrDead)
		write(t, d, 0, 9, api.ErrDead)
		sync(t, d, api.ErrDead)
		// Neither another fuse nor none brings the power back.
		d.Fuse(5)
		write(t, d, 0, 9, api.ErrDead)
		d.Fuse(-1)
		write(t, d, 0, 9, api.ErrDead)
		sync(t, d, api.ErrDead)
	}
}

// P21.2
func TestFuseIsSetAnew(t *testing.T) {
	d := made(t, 2)
	d.Fuse(0)
	d.Fuse(2)
	write(t, d, 0, 1, api.OK)
	d.Fuse(1)
	write(t, d, 0, 2, api.OK)
	for _, n := range []int{-1, math.MinInt} {
		d.Fuse(0)
		d.Fuse(n)
		for range 20 {
			write(t, d, 0, 3, api.OK)
			sync(t, d, api.OK)
		}
	}
	d.Fuse(math.MaxInt)
	write(t, d, 0, 4, api.OK)
}

// P21.2: reading does not burn.
func TestReadBurnsNothing(t *testing.T) {
	d := made(t, 2)
	d.Fuse(1)
	for range 5 {
		read(t, d, 0, disk.Sector{})
		pending(t, d)
	}
	write(t, d, 0, 1, api.OK)
	sync(t, d, api.ErrDead)
	// A Sync that failed made nothing sure.
	pending(t, d, 0)
	d.Crash(0)
	read(t, d, 0, disk.Sector{})
}

// P21.3
func TestCrash(t *testing.T) {
	d := made(t, 1)
	write(t, d, 0, 1, api.OK)
	sync(t, d, api.OK)
	write(t, d, 0, 2, api.OK)
	d.Crash(0)
	read(t, d, 0, sector(1))
	write(t, d, 0, 2, api.OK)
	d.Crash(1)
	read(t, d, 0, sector(2))
	pending(t, d)
	// What was kept is durable now.
	d.Crash(0)
	read(t, d, 0, sector(2))
}

// P21.3: the bits count the pending sectors, not all of them.
func TestCrashBits(t *testing.T) {
	for kept := range uint64(16) {
		d := made(t, 10)
		for _, i := range []int{7, 2, 9} {
			write(t, d, i, i, api.OK)
		}
		d.Crash(kept)
		for k, i := range []int{2, 7, 9} {
			want := disk.Sector{}
			if kept&(1<<k) != 0 {
				want = sector(i)
			}
			read(t, d, i, want)
		}
		pending(t, d)
	}
	d := made(t, 64)
	for i := range 64 {
		write(t, d, i, i, api.OK)
	}
	d.Crash(1<<63 | 1<<31 | 1)
	for i := range 64 {
		want := disk.Sector{}
		if i == 0 || i == 31 || i == 63 {
			want = sector(i)
		}
		read(t, d, i, want)
	}
}

// P21.3
func TestCrashBringsPower(t *testing.T) {
	d := made(t, 2)
	d.Fuse(0)
	write(t, d, 0, 1, api.ErrDead)
	d.Crash(0)
	for range 10 {
		write(t, d, 0, 1, api.OK)
		sync(t, d, api.OK)
	}
	// A crash takes a fuse away that did not go yet.
	d.Fuse(1)
	d.Crash(0)
	for range 10 {
		write(t, d, 0, 1, api.OK)
		sync(t, d, api.OK)
	}
}

// P21.4
func TestDurable(t *testing.T) {
	r := rand.New(rand.NewSource(21))
	for range 100 {
		many := 1 + r.Intn(64)
		d := made(t, many)
		sure := make([]disk.Sector, many)
		shown := make([]disk.Sector, many)
		for range 200 {
			switch r.Intn(10) {
			case 0:
				sync(t, d, api.OK)
				copy(sure, shown)
			case 1:
				kept := r.Uint64()
				all := r.Intn(3) == 0
				if all {
					kept = math.MaxUint64
				}
				d.Crash(kept)
				for i := range many {
					got, _ := d.Read(i)
					if got != sure[i] && got != shown[i] || all && got != shown[i] {
						t.Fatal("a sector is neither as it was written nor as it was sure")
					}
					sure[i], shown[i] = got, got
				}
			default:
				i, n := r.Intn(many), r.Intn(200)
				write(t, d, i, n, api.OK)
				shown[i] = sector(n)
			}
			for i := range many {
				read(t, d, i, shown[i])
			}
		}
	}
}
