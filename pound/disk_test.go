package pound_test

import (
	"bytes"
	"fmt"
	"math"
	"slices"
	"testing"

	"couchant/api"
	"couchant/pound"
)

// P9.1, J1: how many sectors there can be, and what is in them at first.
func TestNewDisk(t *testing.T) {
	for sectors, want := range map[int]api.Errno{64: api.OK, 65: api.OK, 65536: api.OK, 63: api.ErrArg, 65537: api.ErrArg, 0: api.ErrArg, -64: api.ErrArg, math.MaxInt: api.ErrArg, math.MinInt: api.ErrArg} {
		d, e := pound.NewDisk(sectors)
		if e != want || (d == nil) != (e != api.OK) {
			t.Errorf("NewDisk(%d): %v, error %d, want %d", sectors, d != nil, e, want)
		}
		if d == nil {
			continue
		}
		for _, at := range []int{0, 1, sectors - 1} {
			if b, e := d.Read(at); e != api.OK || !bytes.Equal(b, make([]byte, 64)) {
				t.Errorf("Read(%d) of %d sectors: %q, error %d", at, sectors, b, e)
			}
		}
		for _, at := range []int{-1, sectors, math.MaxInt, math.MinInt} {
			b, e := d.Read(at)
			if e != api.ErrArg || len(b) != 0 {
				t.Errorf("Read(%d) of %d sectors: %q, error %d", at, sectors, b, e)
			}
			if e := d.Write(at, nil); e != api.ErrArg {
				t.Errorf("Write(%d) of %d sectors: error %d", at, sectors, e)
			}
		}
		if d.Down() {
			t.Error("a new disk is down")
		}
	}
}

// reads asks for what a sector contains, with zeros behind it.
func reads(t testing.TB, d *pound.Disk, sector int, want string) {
	t.Helper()
	b, e := d.Read(sector)
	if e != api.OK || len(b) != 64 || string(bytes.TrimRight(b, "\x00")) != want {
		t.Errorf("Read(%d): %q, error %d, want %q", sector, b, e, want)
	}
}

// The first example of the chapter, and the other things that a crash does to writes.
func TestCrash(t *testing.T) {
	d := disk(t, 64)
	mustOK(t, "Write", d.Write(0, []byte("abc")))
	mustOK(t, "Flush", d.Flush())
	mustOK(t, "Write", d.Write(0, []byte("xyz")))
	reads(t, d, 0, "xyz")
	d.Crash([]int{1})
	reads(t, d, 0, "xbc")

	// The writes happen in their order, and those behind the list do not.
	for _, text := range []string{"12345", "ab", "none"} {
		mustOK(t, "Write", d.Write(3, []byte(text)))
	}
	d.Crash([]int{64, 1})
	reads(t, d, 3, "a2345")
	// Zeros behind the bytes of a write are written also.
	mustOK(t, "Write", d.Write(3, []byte("x")))
	d.Crash([]int{3})
	reads(t, d, 3, "x\x00\x0045")
	// Less than 0 is 0, and more than 64 is 64.
	mustOK(t, "Write", d.Write(3, []byte("yz")))
	mustOK(t, "Write", d.Write(4, []byte("4")))
	d.Crash([]int{math.MinInt, math.MaxInt, 7})
	reads(t, d, 3, "x\x00\x0045")
	reads(t, d, 4, "4")
	// Nothing is pending behind a crash, and what was flushed stays.
	d.Crash([]int{1, 1, 1})
	reads(t, d, 4, "4")
	mustOK(t, "Write", d.Write(5, []byte("5")))
	d.Crash(nil)
	reads(t, d, 5, "")
	mustOK(t, "Write", d.Write(5, bytes.Repeat([]byte{255}, 64)))
	mustOK(t, "Flush", d.Flush())
	d.Crash([]int{0, 0})
	reads(t, d, 5, string(bytes.Repeat([]byte{255}, 64)))
}

// J2, J3: the power, and the errors in their order.
func TestPower(t *testing.T) {
	d := disk(t, 64)
	mustOK(t, "Write", d.Write(1, []byte("old")))
	mustOK(t, "Flush", d.Flush())
	if e := d.Stop(-1); e != api.ErrArg {
		t.Errorf("Stop(-1): error %d", e)
	}
	mustOK(t, "Stop", d.Stop(5))
	mustOK(t, "a later Stop", d.Stop(2))
	// Calls with an error use up nothing, nor does reading.
	for range 3 {
		if e := d.Write(64, nil); e != api.ErrArg {
			t.Errorf("Write(64): error %d", e)
		}
		if e := d.Write(64, make([]byte, 65)); e != api.ErrArg {
			t.Errorf("Write(64) of 65 bytes: error %d", e)
		}
		if e := d.Write(1, make([]byte, 65)); e != api.ErrLimit {
			t.Errorf("Write of 65 bytes: error %d", e)
		}
		reads(t, d, 1, "old")
	}
	mustOK(t, "Flush", d.Flush())
	mustOK(t, "Write", d.Write(1, []byte("new")))
	// What has an error anyway does not take the disk down.
	if e := d.Write(1, make([]byte, 65)); e != api.ErrLimit || d.Down() {
		t.Errorf("Write of 65 bytes without power: error %d, down %v", e, d.Down())
	}
	if e := d.Write(2, []byte("never")); e != api.ErrDown || !d.Down() {
		t.Errorf("Write without power: error %d, down %v", e, d.Down())
	}
	for name, e := range map[string]api.Errno{"Write": d.Write(64, nil), "Flush": d.Flush(), "Stop": d.Stop(-1), "Stop(9)": d.Stop(9)} {
		if e != api.ErrDown {
			t.Errorf("%s of a disk that is down: error %d", name, e)
		}
	}
	if b, e := d.Read(64); e != api.ErrDown || len(b) != 0 {
		t.Errorf("Read of a disk that is down: %q, error %d", b, e)
	}
	d.Crash([]int{2, 64})
	if d.Down() {
		t.Error("down behind a crash")
	}
	reads(t, d, 1, "ned"[:2]+"d")
	reads(t, d, 2, "")

	// A Flush without power leaves what is pending so; no power at all; and behind a crash it lasts.
	mustOK(t, "Stop", d.Stop(1))
	mustOK(t, "Write", d.Write(7, []byte("seven")))
	if e := d.Flush(); e != api.ErrDown {
		t.Errorf("Flush without power: error %d", e)
	}
	d.Crash([]int{64})
	reads(t, d, 7, "seven")
	mustOK(t, "Stop", d.Stop(0))
	if e := d.Flush(); e != api.ErrDown {
		t.Errorf("Flush behind Stop(0): error %d", e)
	}
	d.Crash(nil)
	mustOK(t, "Stop", d.Stop(1))
	d.Crash(nil) // takes the Stop back
	for range 10 {
		mustOK(t, "Flush", d.Flush())
	}
}

// plain is a disk in the chapter's words.
type plain struct {
	sectors map[int][64]byte
	writes  []int
	bytes   [][64]byte
	power   int // -1: lasts
	down    bool
}

func (p *plain) read(sector int) [64]byte {
	for i := len(p.writes) - 1; i >= 0; i-- {
		if p.writes[i] == sector {
			return p.bytes[i]
		}
	}
	return p.sectors[sector]
}

// uses tells whether a call has power.
func (p *plain) uses() api.Errno {
	if p.power == 0 {
		p.down = true
		return api.ErrDown
	}
	if p.power > 0 {
		p.power--
	}
	return api.OK
}

func (p *plain) crash(keep []int) {
	for i, sector := range p.writes {
		b := p.sectors[sector]
		for k := range b {
			if i < len(keep) && k < keep[i] {
				b[k] = p.bytes[i][k]
			}
		}
		p.sectors[sector] = b
	}
	p.writes, p.bytes, p.power, p.down = nil, nil, -1, false
}

// P9.1, P9.2: a disk does what the chapter says, whatever is called.
func TestDiskAtRandom(t *testing.T) {
	r := random(1)
	stopped, torn := 0, 0
	for range 300 {
		d, p := disk(t, 64), &plain{sectors: map[int][64]byte{}, power: -1}
		for range 200 {
			sector := r.IntN(4) * 21
			want, got, what := api.OK, api.OK, ""
			switch k := r.IntN(20); {
			case k < 8:
				b := slices.Repeat([]byte{byte(1 + r.IntN(200))}, pick(r, 64, 3, r.IntN(65)))
				what = fmt.Sprintf("Write(%d, %q)", sector, b)
				got = d.Write(sector, b)
				want = api.ErrDown
				if !p.down {
					want = p.uses()
				}
				if want == api.OK {
					p.writes, p.bytes = append(p.writes, sector), append(p.bytes, [64]byte(append(b, make([]byte, 64-len(b))...)))
				}
			case k < 11:
				what, got = "Flush", d.Flush()
				want = api.ErrDown
				if !p.down {
					want = p.uses()
				}
				if want == api.OK {
					for i, sector := range p.writes {
						p.sectors[sector] = p.bytes[i]
					}
					p.writes, p.bytes = nil, nil
				}
			case k < 12:
				calls := r.IntN(6)
				what, got = fmt.Sprintf("Stop(%d)", calls), d.Stop(calls)
				if p.down {
					want = api.ErrDown
				} else {
					p.power = calls
				}
			case k < 14:
				var keep []int
				for range r.IntN(4) {
					keep = append(keep, pick(r, 0, 64, r.IntN(65), -3, 80))
				}
				if len(p.writes) > 0 && len(keep) > 0 {
					torn++
				}
				what = fmt.Sprintf("Crash(%v)", keep)
				d.Crash(keep)
				p.crash(keep)
			}
			if got != want || d.Down() != p.down {
				t.Fatalf("%s: error %d, want %d; down %v, want %v", what, got, want, d.Down(), p.down)
			}
			b, e := d.Read(sector)
			if p.down {
				stopped++
				if e != api.ErrDown {
					t.Fatalf("Read behind %s: error %d", what, e)
				}
				continue
			}
			if e != api.OK || [64]byte(b) != p.read(sector) {
				t.Fatalf("Read(%d) behind %s: %q, error %d, want %q", sector, what, b, e, p.read(sector))
			}
		}
	}
	if stopped < 1000 || torn < 1000 {
		t.Errorf("down %d times, torn %d times", stopped, torn)
	}
}
