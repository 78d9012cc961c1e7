package pound

import (
	"bytes"
	"iter"
	"slices"

	"couchant/api"
)

// The journal is a header in the first sector, and records behind it, one for each operation. A record consists of parts, each in a sector with a line, the number of parts of the record that follow, a sum over this part and all before, and a mark.
const (
	moreAt = 58
	sumAt  = 59
	markAt = api.SectorSize - 1
)

// The mark is the last byte of a sector, so that a crash leaves it as it was unless it replaces the whole sector: a part has its mark exactly if it was written as a whole.
const (
	begins byte = 1 // the first part of a record
	goesOn byte = 2 // a further one
)

// basis is the sum before the header.
const basis uint32 = 2166136261

// part returns the sector of a part, and its sum, from the sum of the part before it.
func part(line string, more int, before uint32, mark byte) (sector, uint32) {
	var s sector
	copy(s[:moreAt], line)
	s[moreAt], s[markAt] = byte(more), mark
	sum := before
	for _, b := range s[:sumAt] {
		sum = (sum ^ uint32(b)) * 16777619
	}
	for i := range markAt - sumAt {
		s[sumAt+i] = byte(sum >> (8 * i))
	}
	return s, sum
}

// line returns the line of a part.
func (s sector) line() string {
	text, _, _ := bytes.Cut(s[:moreAt], []byte{0})
	return string(text)
}

// header returns the first sector of the journal of one of n reeves, and its sum.
func header(reeve, n int) (sector, uint32) {
	return part("reeve"+numbers(reeve, n), 0, basis, begins)
}

// isUnfinished tells whether a sector can be what crashes have left of headers that were never written as a whole.
func isUnfinished(s sector) bool {
	var bytesOf [api.SectorSize][]byte
	for _, n := range []int{3, api.MaxReeves} {
		for reeve := range n {
			whole, _ := header(reeve, n)
			for i, b := range whole[:markAt] {
				bytesOf[i] = append(bytesOf[i], b)
			}
		}
	}
	for i, b := range s {
		if b != 0 && !slices.Contains(bytesOf[i], b) {
			return false
		}
	}
	return true
}

// areBlank tells whether sectors contain nothing.
func areBlank(l []sector) bool {
	return !slices.ContainsFunc(l, func(s sector) bool { return s != sector{} })
}

// journal is that of a reeve: its next record begins at the sector end, behind a part with a sum.
type journal struct {
	disk *Disk
	end  int
	sum  uint32
	// What a disk contains that failed in an operation is not known before the journal is opened anew.
	unknown bool
}

// begin puts the header of the journal of one of n reeves on its disk, unless it is there.
func (j *journal) begin(all []sector, reeve, n int) {
	head, sum := header(reeve, n)
	j.end, j.sum = 1, sum
	if all[0] == head {
		return
	}
	need(isUnfinished(all[0]) && areBlank(all[1:]), api.ErrSpoilt)
	need(j.put([]sector{head}, 0), api.ErrDown)
}

// lines yields the lines of the parts of all records, and goes on behind these.
func (j *journal) lines(all []sector) iter.Seq[string] {
	return func(yield func(string) bool) {
		for j.end < len(all) && all[j.end][markAt] == begins {
			mark := begins
			for more := int(all[j.end][moreAt]); more >= 0; more-- {
				need(j.end < len(all), api.ErrSpoilt)
				s := all[j.end]
				whole, sum := part(s.line(), more, j.sum, mark)
				need(s == whole, api.ErrSpoilt)
				if !yield(s.line()) {
					return
				}
				j.end, j.sum, mark = j.end+1, sum, goesOn
			}
		}
	}
}

// isLeft tells whether sectors behind the last record can be what crashes have left there: parts of records that never got their first one.
func isLeft(behind []sector) bool {
	reach := min(len(behind), api.MaxLetter)
	return areBlank(behind[reach:]) && !slices.ContainsFunc(behind[:reach], func(s sector) bool { return s[markAt] != 0 && s[markAt] != goesOn })
}

// sectors returns what a disk contains.
func sectors(d *Disk) []sector {
	all := make([]sector, len(d.seen))
	for i := range all {
		b, e := d.Read(i)
		need(e == api.OK, e)
		all[i] = sector(b)
	}
	return all
}

// add makes a record of some lines durable. The further parts are durable before the first one is written, so that there is no record without all of them.
func (j *journal) add(lines []string) api.Errno {
	switch {
	case j.unknown || j.disk.Down():
		j.unknown = true
		return api.ErrDown
	case j.end+len(lines) > len(j.disk.seen):
		return api.ErrFull
	}
	sum, mark := j.sum, begins
	parts := make([]sector, len(lines))
	for i, line := range lines {
		parts[i], sum = part(line, len(lines)-1-i, sum, mark)
		mark = goesOn
	}
	done := (len(parts) == 1 || j.put(parts[1:], j.end+1)) && j.put(parts[:1], j.end)
	if !done {
		j.unknown = true
		return api.ErrDown
	}
	j.end, j.sum = j.end+len(parts), sum
	return api.OK
}

// put makes sectors durable, from one on, and tells whether the power was enough.
func (j *journal) put(l []sector, at int) bool {
	for i, s := range l {
		if j.disk.Write(at+i, s[:]) != api.OK {
			return false
		}
	}
	return j.disk.Flush() == api.OK
}
