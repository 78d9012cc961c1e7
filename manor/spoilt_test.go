package manor

import (
	"testing"

	"couchant/api"
)

// K13: a reeve that cannot be opened from its disk does nothing, and is down, until a crash brings it back. (No command makes such a disk, so the test spoils one.)
func TestSpoiltDisk(t *testing.T) {
	m, e := New(api.Setup{Reeves: 3, Sectors: 1000, Fell: "fell 1 0\nheaf high\n", Rules: "fine over when 0 < 1 pays 9\n"})
	if e != api.OK {
		t.Fatalf("New: error %d", e)
	}
	for _, text := range []string{"step complain 7 1 over", "step complain 7 1 over", "step complain 7 1 over", "step summon 3", "day 21", "judge 3"} {
		if e := m.Write(text); e != api.OK {
			t.Fatalf("Write(%q): error %d", text, e)
		}
	}
	m.Fee(0, 3, 7, 5)
	m.Send(1, 0)
	d := m.reeves[0].disk
	header, e := d.Read(0)
	if e != api.OK {
		t.Fatalf("Read: error %d", e)
	}
	d.Write(0, []byte("something else"))
	d.Flush()
	if e := m.Crash(0, nil); e != api.ErrSpoilt {
		t.Errorf("Crash of a spoilt disk: error %d", e)
	}
	of := api.Ref{Number: 1}
	for name, work := range map[string]func() (int, api.Errno){
		"Want": func() (int, api.Errno) { return m.Want(0, "ewe", 30) }, "Fee": func() (int, api.Errno) { return m.Fee(0, 6, 7, 5) }, "Charge": func() (int, api.Errno) { return m.Charge(3) },
		"Pay": func() (int, api.Errno) { return m.Pay(0, of, 1) }, "Waive": func() (int, api.Errno) { return m.Waive(0, of, 1) }, "Settle": func() (int, api.Errno) { return m.Settle(0) },
		"Free": func() (int, api.Errno) { return 0, m.Free(0, "ewe") }, "Send": func() (int, api.Errno) { return 0, m.Send(0, 1) }, "Carry": func() (int, api.Errno) { return 0, m.Carry(1, 0, 0) },
	} {
		if n, e := work(); n != 0 || e != api.ErrDown {
			t.Errorf("%s of a reeve that was not opened: %d, error %d", name, n, e)
		}
	}
	if len(m.Roll(0))+len(m.Holds(0))+len(m.Promises(0)) > 0 {
		t.Error("a reeve that was not opened knows something")
	}
	d.Write(0, header)
	d.Flush()
	if e := m.Crash(0, nil); e != api.OK || len(m.Roll(0)) != 1 {
		t.Errorf("Crash of the disk as it was: error %d, roll %v", e, m.Roll(0))
	}
	if e := m.Carry(1, 0, 0); e != api.OK {
		t.Errorf("Carry of the message that stayed: error %d", e)
	}
}
