package pound_test

import (
	"fmt"
	"math/rand/v2"
	"strings"
	"testing"

	"couchant/api"
	"couchant/pound"
)

func mustOK(t testing.TB, what string, e api.Errno) {
	t.Helper()
	if e != api.OK {
		t.Fatalf("%s: error %d", what, e)
	}
}

func random(seed uint64) *rand.Rand { return rand.New(rand.NewPCG(seed, 29)) }

// pick returns one of the items.
func pick[T any](r *rand.Rand, items ...T) T { return items[r.IntN(len(items))] }

func ref(reeve, number int) api.Ref { return api.Ref{Reeve: reeve, Number: number} }

// disk returns a disk with so many sectors.
func disk(t testing.TB, sectors int) *pound.Disk {
	t.Helper()
	d, e := pound.NewDisk(sectors)
	mustOK(t, "NewDisk", e)
	return d
}

// opened returns a reeve of n from a disk.
func opened(t testing.TB, d *pound.Disk, reeve, n int) *pound.Reeve {
	t.Helper()
	r, e := pound.Open(d, reeve, n)
	mustOK(t, "Open", e)
	return r
}

// bench returns n reeves, each on a disk with so many sectors.
func bench(t testing.TB, n, sectors int) ([]*pound.Reeve, []*pound.Disk) {
	t.Helper()
	var l []*pound.Reeve
	var disks []*pound.Disk
	for i := range n {
		d := disk(t, sectors)
		disks, l = append(disks, d), append(l, opened(t, d, i, n))
	}
	return l, disks
}

// hear lets a reeve hear a message, which has to have the answer.
func hear(t testing.TB, r *pound.Reeve, m string, now int, answer string) {
	t.Helper()
	got, e := r.Hear(m, now)
	if got != answer || e != api.OK {
		t.Fatalf("Hear(%q, %d): %q, error %d, want %q", m, now, got, e, answer)
	}
}

// refuses asks that a reeve refuses a message with an error.
func refuses(t testing.TB, r *pound.Reeve, m string, now int, want api.Errno) {
	t.Helper()
	if got, e := r.Hear(m, now); got != "" || e != want {
		t.Errorf("Hear(%q, %d): %q, error %d, want error %d", m, now, got, e, want)
	}
}

// posts returns postings with lines.
func posts(t testing.TB, n int, lines ...string) []api.Posting {
	t.Helper()
	var l []api.Posting
	for _, line := range lines {
		p, e := pound.Read(n, line)
		if e != api.OK {
			t.Fatalf("Read(%d, %q): error %d", n, line, e)
		}
		l = append(l, p)
	}
	return l
}

// post returns the letter with postings.
func post(lines ...string) string {
	return fmt.Sprintf("post %d\n%s\n", len(lines), strings.Join(lines, "\n"))
}

// lineOf returns the line of a posting.
func lineOf(t testing.TB, n int, p api.Posting) string {
	t.Helper()
	line, e := pound.Write(n, p)
	mustOK(t, fmt.Sprintf("Write of %v", p), e)
	return line
}

// stateOf returns all that can be asked of a reeve at some ticks.
func stateOf(r *pound.Reeve, ticks ...int) string {
	s := fmt.Sprintln(r.Asks(), r.Roll(), r.Have())
	for _, now := range ticks {
		s += fmt.Sprintln(now, r.Promises(now), r.Holds(now), r.Letters(now))
	}
	return s
}

// tags are those of some beasts.
func tags() []string { return []string{"ewe-7", "cow", "a", "abcdefghijklmnopqrstuv-9"} }
