package manor

import (
	"slices"

	"couchant/api"
	"couchant/deed"
	"couchant/fell"
	"couchant/share"
	"couchant/tally"
)

// shelf is a list of the books: what reads a record from a line, puts it behind the others, and tells its Id and its day.
type shelf[T any] struct {
	list *[]T
	read func(line string) (T, api.Errno)
	add  func(l []T, x T) ([]T, api.Errno)
	key  func(x T) (id, day int)
}

func equals(b *api.Books) shelf[api.Equal] {
	return shelf[api.Equal]{&b.Equals, share.Read, share.Append, func(x api.Equal) (int, int) { return x.Id, x.Known }}
}

func deeds(b *api.Books) shelf[api.Deed] {
	return shelf[api.Deed]{&b.Deeds, deed.Read, deed.Append, func(x api.Deed) (int, int) { return x.Id, x.Known }}
}

func recounts(b *api.Books) shelf[api.Recount] {
	add := func(l []api.Recount, x api.Recount) ([]api.Recount, api.Errno) {
		l = append(slices.Clone(l), x)
		_, e := tally.CheckRecounts(l)
		return l, e
	}
	return shelf[api.Recount]{&b.Recounts, tally.ReadRecount, add, func(x api.Recount) (int, int) { return x.Id, x.Known }}
}

func reports(b *api.Books) shelf[api.Report] {
	read := func(line string) (api.Report, api.Errno) { return fell.Read(b.Fell, line) }
	add := func(l []api.Report, x api.Report) ([]api.Report, api.Errno) { return fell.Append(b.Fell, l, x) }
	return shelf[api.Report]{&b.Reports, read, add, func(x api.Report) (int, int) { return x.Id, x.Known }}
}

func steps(b *api.Books) shelf[api.Step] {
	add := func(l []api.Step, x api.Step) ([]api.Step, api.Errno) {
		return append(slices.Clone(l), x), CheckStep(*b, x)
	}
	return shelf[api.Step]{&b.Steps, ReadStep, add, func(x api.Step) (int, int) { return x.Id, x.Day }}
}

// next returns the next Id of the list.
func (s shelf[T]) next() int {
	greatest := 0
	for _, x := range *s.list {
		id, _ := s.key(x)
		greatest = max(greatest, id)
	}
	return greatest + 1
}

// line returns the line of the next record, known on a day, that says something.
func (s shelf[T]) line(day int, says string) string {
	return behind("", s.next(), day)[1:] + " " + says
}

// judged returns the list with the record of a line of an entry, and the record. What it finds otherwise is that the line is none, or something else.
func (s shelf[T]) judged(line string, day int, finds uint8) ([]T, T) {
	x, e := s.read(line)
	need(e == api.OK, api.FindForm)
	id, known := s.key(x)
	need(id == s.next() && known == day, finds)
	l, e := s.add(*s.list, x)
	need(e == api.OK, finds)
	return l, x
}
