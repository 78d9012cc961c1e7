package pound

import (
	"slices"

	"couchant/api"
)

// sector is what a sector of a disk contains.
type sector [api.SectorSize]byte

// write is one that is pending.
type write struct {
	at   int
	what sector
}

// Disk is a disk (J1 to J3): durable is what a crash builds on, seen is what Read returns.
type Disk struct {
	durable, seen []sector
	pending       []write
	// If the power is short, it lasts for left further calls.
	short bool
	left  int
	down  bool
}

// NewDisk returns a disk with so many sectors.
func NewDisk(sectors int) (*Disk, api.Errno) {
	if !within(sectors, api.MinSectors, api.MaxSectors) {
		return nil, api.ErrArg
	}
	return &Disk{durable: make([]sector, sectors), seen: make([]sector, sectors)}, api.OK
}

// refusal returns why the disk does not take a call.
func (d *Disk) refusal() api.Errno {
	switch {
	case d == nil:
		return api.ErrNil
	case d.down:
		return api.ErrDown
	}
	return api.OK
}

// has tells whether there is such a sector.
func (d *Disk) has(sector int) bool { return within(sector, 0, len(d.seen)-1) }

// draws takes power for a call and tells whether there was any; otherwise the disk goes down.
func (d *Disk) draws() bool {
	if d.short {
		d.down = d.left == 0
		d.left--
	}
	return !d.down
}

// Read returns the bytes of a sector.
func (d *Disk) Read(sector int) ([]byte, api.Errno) {
	if e := d.refusal(); e != api.OK {
		return nil, e
	}
	if !d.has(sector) {
		return nil, api.ErrArg
	}
	return slices.Clone(d.seen[sector][:]), api.OK
}

// Write writes a sector: some bytes, and zeros behind them.
func (d *Disk) Write(sector int, b []byte) api.Errno {
	if e := d.refusal(); e != api.OK {
		return e
	}
	switch {
	case !d.has(sector):
		return api.ErrArg
	case len(b) > api.SectorSize:
		return api.ErrLimit
	case !d.draws():
		return api.ErrDown
	}
	w := write{at: sector}
	copy(w.what[:], b)
	d.pending = append(d.pending, w)
	d.seen[sector] = w.what
	return api.OK
}

// Flush makes all writes durable.
func (d *Disk) Flush() api.Errno {
	if e := d.refusal(); e != api.OK {
		return e
	}
	if !d.draws() {
		return api.ErrDown
	}
	for _, w := range d.pending {
		d.durable[w.at] = w.what
	}
	d.pending = nil
	return api.OK
}

// Stop lets the power fail after so many further calls of Write and Flush.
func (d *Disk) Stop(calls int) api.Errno {
	if e := d.refusal(); e != api.OK {
		return e
	}
	if calls < 0 {
		return api.ErrArg
	}
	d.short, d.left = true, calls
	return api.OK
}

// Crash makes the pending writes happen in part, each with as many bytes as keep says, and takes the disk up again.
func (d *Disk) Crash(keep []int) {
	if d == nil {
		return
	}
	for i, w := range d.pending {
		kept := 0
		if i < len(keep) {
			kept = min(max(keep[i], 0), api.SectorSize)
		}
		copy(d.durable[w.at][:kept], w.what[:])
	}
	for _, w := range d.pending {
		d.seen[w.at] = d.durable[w.at]
	}
	d.pending, d.short, d.down = nil, false, false
}

// Down tells whether the disk is down.
func (d *Disk) Down() bool { return d == nil || d.down }
